/- A call of a reader, tried. -/
import Derived.Test.YtjndcehmlegacaaR5
namespace Go.Proofs.Ytjndcehmlegacaa
open Go.RowKit

theorem clo_any (g : Nat) (A : Option Addr) (n c : Nat) (bs : List UInt8) (p : Nat) (bc br : Nat) (K N : Int) (V : Nat) (w : World) (h : Rdr w g A n c bs p) (hp : p ≤ n) (hnc : n ≤ c) (hn : n ≤ 1000) (hc : c ≤ 9223372036854775807) (hN1 : N ≤ 9223372036854775807)
    (h1 : Whole w bc 43 #[.int .i64 K, .int .i64 N, .int .u64 V]) (h2 : Whole w br 40 #[.pointer (some ⟨g, 0, none⟩)]) : Calls Try.prog 25 #[.pointer (some ⟨bc, 0, none⟩), .pointer (some ⟨br, 0, none⟩)] w (Clo w g A n c (rres bs n p K N V)) := by
  have thr : ∀ (r : Value) (k : Int), Calls Try.prog 27 #[r, .int .i64 N] w (Threw w k) → Calls Try.prog 27 #[r, .int .i64 N] w (ThrM w g A n c p k) := fun r k hh => hh.mono fun e w' t => t.thrM h
  unfold rres
  by_cases hb : rbad K N = true
  · rw [if_pos hb, Clo_some]
    unfold rbad at hb
    simp only [decide_eq_true_eq] at hb
    by_cases k0 : K = 0
    · subst k0
      have := clo_zero g A n c bc br N V w (some 1, [], p) h1 h2 ((bytes_neg _ N w (by omega)).mono fun e w' t => t.thrM h)
      rwa [Clo_some] at this
    have hw : rightW N = false := by unfold rightW; simp; omega
    by_cases k1 : K = 1
    · subst k1
      exact clo_one_thr g A n c bc br N V w 1 p h1 h2 (thr _ _ (int_wrong _ N w hw))
    · exact clo_two_thr g A n c bs p bc br K N V w 1 (by simpa using k0) (by simpa using k1) h h1 h2 (want_threw _ N V 35 1 w (int_wrong _ N w hw))
  rw [if_neg hb]
  unfold rbad at hb
  simp only [decide_eq_true_eq] at hb
  obtain ⟨k, rfl⟩ := Int.eq_ofNat_of_zero_le (show 0 ≤ N by omega)
  simp only [Int.toNat_natCast]
  by_cases hs : (n : Int) - p < (k : Int)
  · rw [if_pos hs, Clo_some]
    by_cases k0 : K = 0
    · subst k0
      have := clo_zero g A n c bc br k V w (some 4, [], p) h1 h2 ((bytes_short g A n c bs p k w h hp (by omega) (by omega) (by omega)).mono fun e w' t => t.thrM h)
      rwa [Clo_some] at this
    have hi := int_short g A n c bs p k w h hp (by omega) (by omega) (by omega) (by omega)
    by_cases k1 : K = 1
    · subst k1
      exact clo_one_thr g A n c bc br k V w 4 p h1 h2 (thr _ _ hi)
    · exact clo_two_thr g A n c bs p bc br K k V w 4 (by simpa using k0) (by simpa using k1) h h1 h2 (want_threw _ k V 35 4 w hi)
  rw [if_neg hs]
  have hlen := h.2.len
  have htl : ((bs.drop p).take k).length = k := by simp; omega
  by_cases k0 : K = 0
  · subst k0
    rw [if_pos rfl]
    refine clo_zero g A n c bc br k V w _ h1 h2 ?_
    rw [Clo_none, htl]
    exact bytes_ok g A n c bs p k w h (by omega) hnc (by omega) hc
  rw [if_neg k0]
  have hi := int_ok g A n c bs p k w h (by omega) hnc (by omega) hc (by omega) (by omega)
  have hv : num ((bs.drop p).take k) < 18446744073709551616 := Nat.lt_of_lt_of_le (num_lt _) (by rw [htl]; exact pow_le8 k (by omega))
  by_cases k1 : K = 1
  · subst k1
    rw [if_pos rfl, Clo_none]
    have := clo_one_ok g A n c bc br k V w (p + k) _ hv h1 h2 hi
    rwa [show (leB (num ((bs.drop p).take k)) 8).length = 8 by simp [leB]]
  rw [if_neg k1]
  have hb2 : ∀ b : Bool, (((num ((bs.drop p).take k) : Nat) : Int) == (V : Int)) = b → Calls Try.prog 25 #[.pointer (some ⟨bc, 0, none⟩), .pointer (some ⟨br, 0, none⟩)] w (Clo w g A n c (if b then none else some 35, [], p + k)) := fun b hb =>
    clo_two g A n c bc br K k V w b (p + k) (by simpa using k0) (by simpa using k1) h1 h2 (want_ok g A n c (p + k) _ V 35 k b w hb hi)
  by_cases hV : num ((bs.drop p).take k) = V
  · rw [if_pos hV]
    exact hb2 true (by simp [hV])
  · rw [if_neg hV]
    exact hb2 false (by simp; omega)
def ReadP (w : World) (g : Nat) (A : Option Addr) (n c : Nat) (r : Option Int × List UInt8 × Nat) (e : Ending) (w' : World) : Prop :=
  ∃ A2 c2, e = .returned (.tuple #[.slice A2 r.2.1.length c2, .int .i64 (r.1.getD 0)]) ∧ Bs w' (fun b => w.heap.size ≤ b) A2 r.2.1.length r.2.1 ∧ Moved w g A n c r.2.2 w'
theorem try25 (g : Nat) (A : Option Addr) (n c : Nat) (bs : List UInt8) (p : Nat) (bc br : Nat) (K N : Int) (V : Nat) (w : World) (h : Rdr w g A n c bs p) (hp : p ≤ n) (hnc : n ≤ c) (hn : n ≤ 1000) (hc : c ≤ 9223372036854775807) (hN1 : N ≤ 9223372036854775807)
    (h1 : Whole w bc 43 #[.int .i64 K, .int .i64 N, .int .u64 V]) (h2 : Whole w br 40 #[.pointer (some ⟨g, 0, none⟩)]) : Calls Try.prog 24 #[.func (.func 25) #[] #[.pointer (some ⟨bc, 0, none⟩), .pointer (some ⟨br, 0, none⟩)]] w (ReadP w g A n c (rres bs n p K N V)) := by
  have hr := fun w' (hb : Below w.heap.size w w') => clo_any g A n c bs p bc br K N V w' (h.below hb) hp hnc hn hc hN1 (h1.below' hb) (h2.below' hb)
  have hgl := h.1.lt
  have e0 : ∀ k xs q, rres bs n p K N V = (some k, xs, q) → xs = [] := fun k xs q hq => by
    unfold rres at hq
    split at hq
    · injection hq with _ hq; injection hq with hq _; exact hq.symm
    split at hq
    · injection hq with _ hq; injection hq with hq _; exact hq.symm
    split at hq
    · injection hq with hq; cases hq
    split at hq
    · injection hq with hq; cases hq
    split at hq
    · injection hq with hq; cases hq
    · injection hq with _ hq; injection hq with hq _; exact hq.symm
  generalize rres bs n p K N V = r at hr e0
  have mv : ∀ q w' w1 w2, Below w.heap.size w w1 → Moved w1 g A n c q w2 → Below w.heap.size w2 w' → Moved w g A n c q w' := fun q w' w1 w2 b1 b2 b3 => by
    have e1 := b1.size
    exact ⟨⟨b3.os.trans (b2.1.1.trans b1.os), b3.tape.trans (b2.1.2.1.trans b1.tape), b3.output.trans (b2.1.2.2.1.trans b1.output), Nat.le_trans b1.size (Nat.le_trans b2.1.size b3.size), fun k hk hkg =>
      (b3.block k hk).trans ((b2.1.2.2.2.2 k (by omega) hkg).trans (b1.block k hk))⟩, b2.2.below b3 hgl⟩
  have kp : ∀ q, Keep w.heap.size fun a b => Moved a g A n c q b := fun q _ _ hm => ⟨hm.1.size, fun _ _ _ hk hw => hm.1.whole hw (by omega)⟩
  obtain ⟨o, xs, q⟩ := r
  cases o with
  | none =>
    refine (tryB_ret 25 _ xs.length w (fun A2 c2 a b => Bs b (fun k => a.heap.size ≤ k) A2 xs.length xs ∧ Moved a g A n c q b) (fun _ => by kernel_rfl) (fun A2 c2 => fun a b hk => kp q a b hk.2) fun w' hb => (hr w' hb).mono fun e w'' ⟨A2, c2, k1, k2, k3⟩ => ⟨A2, c2, k1, k2, k3⟩).mono ?_
    rintro e w' ⟨A2, c2, rfl, w1, w2, b1, ⟨b2, b3⟩, b4, b5⟩
    refine ⟨A2, c2, rfl, ?_, mv q w' w1 w2 b1 b3 b4⟩
    have hz : w2.heap.size ≤ w'.heap.size := b4.size
    exact (b2.keep hz fun b hb hk => b5 b hk hb).mono fun b hb => Nat.le_trans b1.size hb
  | some k =>
    obtain rfl := e0 k xs q rfl
    refine (tryB_throw 25 _ k w (fun a b => Moved a g A n c q b) (fun _ => by kernel_rfl) (kp q) hr).mono ?_
    rintro e w' ⟨rfl, w1, w2, b1, b3, b4⟩
    exact ⟨none, 0, rfl, Bs.empty _ _ _, mv q w' w1 w2 b1 b3 b4⟩
theorem read_any (g : Nat) (A : Option Addr) (n c : Nat) (bs : List UInt8) (p : Nat) (K N : Int) (V : Nat) (w : World) (h : Rdr w g A n c bs p) (hp : p ≤ n) (hnc : n ≤ c) (hn : n ≤ 1000) (hc : c ≤ 9223372036854775807) (hN1 : N ≤ 9223372036854775807) :
    Calls Try.prog 18 #[.pointer (some ⟨g, 0, none⟩), .agg #[.int .i64 K, .int .i64 N, .int .u64 V]] w (ReadP w g A n c (rres bs n p K N V)) := by
  have hmf : ∀ (fn : Fn) (first cap : Array Value) (w : World), (Instr.makeFunc fn first cap).run Try.prog w = .ok (.func fn first cap) w := fun _ _ _ _ => rfl
  have hb : Below w.heap.size w ((w.alloc (.cells #[.pointer (some ⟨g, 0, none⟩)] 40)).alloc (.cells #[.int .i64 K, .int .i64 N, .int .u64 V] 43)) := ((Below.refl _ _).alloc (Nat.le_refl _) _).alloc (by simp) _
  have HT := Lib.hid (try25 g A n c bs p (w.heap.size + 1) w.heap.size K N V _ (h.below hb) hp hnc hn hc hN1 (Whole.new _ 43 _ (by simp)) ((Whole.new w 40 _ rfl).alloc _))
  have HB := Lib.hid hb
  have hg := h.1.lt
  clear h hb
  go_enter Try.func18, Try.ntmps18
  go_wp2_with fail
  refine HT.out.mono ?_
  rintro e w2 ⟨A2, c2, rfl, hB, hM⟩
  have HB2 := Lib.hid (hB.mono fun b (hb : _ ≤ b) => Nat.le_trans HB.out.size hb)
  have HM := Lib.hid (show Moved w g A n c _ w2 from ⟨(Alone.of_below HB.out g).trans hM.1, hM.2⟩)
  clear hB hM
  go_wp2
  simp [bodyPost, results, Try.results18, go_sem]
  exact ⟨A2, c2, rfl, HB2.out, HM.out⟩
end Go.Proofs.Ytjndcehmlegacaa
