/- The page's Copy; calls read whole; which calls are light. -/
import Derived.Test.YtphphejabgjnjaaV5
namespace Go.Proofs.Ytphphejabgjnjaa
open Go.RowKit

theorem own_nothing (w : World) (e : TypeId) (sz : Nat) {B : Nat} (hB : B ≤ w.heap.size) : (w.alloc (.cells #[] e)).ownsRow B e sz (.slice (some ⟨w.heap.size, 0, none⟩) 0 0) 0 [] :=
  ⟨by simp, .inr ⟨w.heap.size, 0, #[], rfl, hB, heap_alloc_new w _, Nat.le_refl _, by unfold maxLen; omega, by simp, by simp⟩⟩
theorem own_some' {w : World} {base n c : Nat} {A : Option Addr} {xs : List Value} (h : w.ownsRow base 5 1 (.slice A n c) n xs) (hn : 0 < n) : ∃ g, A = some ⟨g, 0, none⟩ ∧ n ≤ c := by
  rcases h.2 with ⟨h1, h2⟩ | ⟨g, cap, cur, h1, _, _, h2, _⟩
  · omega
  · injection h1 with h1 _ h3
    exact ⟨g, h1, by omega⟩
theorem row_bs {w : World} {base n c g : Nat} {bs : List UInt8} (h : w.ownsRow base 5 1 (.slice (some ⟨g, 0, none⟩) n c) n (bs.map bv)) : Bs w (fun b => base ≤ b) (some ⟨g, 0, none⟩) n bs := Bs.of_own h
theorem bs_add {w : World} {S : Nat → Prop} {A : Option Addr} {n : Nat} {bs : List UInt8} (h : Bs w S A n bs) {k : Nat} (hk : k ≤ n) : Bs w S (A.map (fun x => x.add k)) (n - k) (bs.drop k) := by
  have hl := h.len
  refine ⟨by simp; omega, fun h0 => ?_⟩
  obtain ⟨b, off, e, hl2, hb, hc⟩ := h.2 (by omega)
  refine ⟨b, off + k, by rw [e]; simp [Addr.add], hl2, hb, fun i v hi => ?_⟩
  rw [List.map_drop, List.getElem?_drop] at hi
  have := hc (k + i) v hi
  simpa [Nat.add_assoc, Nat.mul_one] using this
def RCopyP (n d k : Nat) (bs : List UInt8) (w : World) (e : Ending) (w' : World) : Prop :=
  ∃ g c' B c2, e = .returned (.tuple #[.slice (some ⟨g, 0, none⟩) (n + k) c', .slice B k c2]) ∧ n + k ≤ c' ∧ Bs w' (fun b => w.heap.size ≤ b) (some ⟨g, 0, none⟩) (n + k) (cpy bs d k) ∧ Bs w' (fun b => w.heap.size ≤ b) B k (cpt bs d k) ∧ Below w.heap.size w w'
set_option maxHeartbeats 4000000 in
theorem rcopy_any (A : Option Addr) (n c d k : Nat) (bs : List UInt8) (S : Nat → Prop) (w : World) (hA : Bs w S A n bs) (hn : n ≤ 10000000) (h1 : 1 ≤ d) (h2 : d ≤ n) (hk : k ≤ 1048576) :
    Calls Try.prog 14 #[.slice A n c, .int .i64 (d : Nat), .int .i64 (k : Nat)] w (RCopyP n d k bs w) := by
  obtain ⟨i0, hi, hz0, hz1, hz2⟩ := info_parts info5
  simp only at hz0 hz1 hz2
  have HXL := Lib.hid hA.len
  have HA := Lib.hid hA
  clear hA
  go_enter Try.func14, Try.ntmps14
  go_wp2_with (at_builtin; refine wpList_append_list _ rfl (.tmp 10) (.tmp 11) 27 rfl w.heap.size 5 i0 (.int .u8 0) 1 1 Try.underlying27 hi hz0 hz1 hz2 rfl (by decide) (.slice (some ⟨w.heap.size, 0, none⟩) 0 0) 0 [] rfl (own_nothing w 5 1 (Nat.le_refl _)) _ A n c _ rfl (Lst.alloc HA.out _) oneCell_bytes (by unfold maxLen; omega) (by omega) (by simp) ?_)
  intro A3 c3 x3 hown3 hgrow3 hat3
  have HW3 := Lib.hid (((Below.refl w.heap.size w).alloc (Nat.le_refl _) (.cells #[] 5)).grown hgrow3 (by simp) (fun g e => by simp [Value.ownBlock] at e; omega))
  have HO3 : Hid (x3.ownsRow w.heap.size 5 1 (.slice A3 n c3) n (bs.map bv)) := Lib.hid (by simpa using hown3)
  clear hown3 hgrow3 hat3
  go_wp2
  go_loopw [8, 9] (fun o i wr => ∃ (j : Nat) (A4 : Option Addr) (c4 : Nat), j ≤ k ∧ i = .int .i64 (j : Nat) ∧ o = .slice A4 (n + j) c4 ∧ Hid (wr.ownsRow w.heap.size 5 1 (.slice A4 (n + j) c4) (n + j) ((cpy bs d j).map bv)) ∧ Hid (Below w.heap.size w wr)) (fun _ i _ => k - (intOf i).toNat)
  case atStart => exact ⟨0, A3, c3, Nat.zero_le _, rfl, rfl, HO3, HW3⟩
  case round =>
    obtain ⟨j, A4, c4, hj, rfl, rfl, hO4, hW4⟩ := hrel
    obtain ⟨g4, rfl, hc4⟩ := own_some' hO4.out (by omega)
    by_cases hkl : j < k
    · have dk : decide ((j : Int) < (k : Int)) = true := by simp; omega
      obtain ⟨M, hM⟩ : ∃ M, n + j = M := ⟨_, rfl⟩
      rw [hM] at hO4 hc4 ⊢
      have hMb : M ≤ 20000000 := by omega
      obtain ⟨p, hp⟩ : ∃ p, M - d = p := ⟨_, rfl⟩
      have hp' : (M : Int) - (d : Int) = (p : Nat) := by omega
      have hpM : p < M := by omega
      have hml : (cpy bs d j).length = M := by rw [cpy_len, HXL.out]; exact hM
      obtain ⟨z, hz⟩ : ∃ z : UInt8, (cpy bs d j).getD p 0 = z := ⟨_, rfl⟩
      have hcz : wr.cell? ⟨g4, p, none⟩ = some (.int .u8 (z.toNat : Int)) := by
        rw [World.ownsRow.cellAt hO4.out p (by omega), List.getElem?_map, List.getElem?_eq_getElem (by omega), ← hz, List.getD_eq_getElem?_getD, List.getElem?_eq_getElem (by omega)]
        rfl
      have HRS : Hid (cpy bs d (j + 1) = cpy bs d j ++ [z]) := Lib.hid (by rw [cpy, HXL.out, hM, hp, hz])
      obtain ⟨z', hz'⟩ : ∃ z' : Nat, z.toNat = z' := ⟨_, rfl⟩
      rw [hz'] at hcz
      have HZ' := Lib.hid hz'
      have i1 : (p : Int) < (M : Int) := by omega
      have HMM := Lib.hid hM
      clear hz hz' hml hp hM
      go_wp2_with (at_builtin; refine wpList_append_list _ rfl (.tmp 18) (.tmp 26) 27 rfl w.heap.size 5 i0 (.int .u8 0) 1 1 Try.underlying27 hi hz0 hz1 hz2 rfl (by decide) (.slice (some ⟨g4, 0, none⟩) M c4) M _ rfl (hO4.out.alloc _) _ (some ⟨wr.heap.size, 0, none⟩) 1 1 [.int .u8 (z' : Int)] rfl (Lst.new wr 5 #[.int .u8 (z' : Int)] 1 rfl rfl) (by simp [Value.oneCell']) (by unfold maxLen; omega) (by omega) (by have := hW4.out.size; simp; omega) ?_)
      intro A5 c5 x5 hown5 hgrow5 hat5
      have HO5 : Hid (x5.ownsRow w.heap.size 5 1 (.slice A5 (n + (j + 1)) c5) (n + (j + 1)) ((cpy bs d (j + 1)).map bv)) := by
        rw [HRS.out, List.map_append, List.map_singleton, show n + (j + 1) = M + 1 by have := HMM.out; omega, show bv z = .int .u8 (z' : Int) by rw [← HZ'.out]]
        exact Lib.hid hown5
      have HW5 := Lib.hid ((hW4.out.alloc hW4.out.size _).grown hgrow5 (by have := hW4.out.size; simp; omega) (fun g e => (hO4.out.lt g e).1))
      clear hown5 hgrow5 hat5
      go_wp2
      exact ⟨⟨j + 1, A5, c5, by omega, by go_num, by rw [show n + (j + 1) = M + 1 by have := HMM.out; omega], HO5, HW5⟩, by simp [intOf]; omega⟩
    · obtain rfl : j = k := by omega
      have dk : decide ((j : Int) < (j : Int)) = false := by simp
      have hB := row_bs hO4.out
      have hB2 := bs_add hB (k := n) (by omega)
      have hB3 : Bs wr (fun b => w.heap.size ≤ b) (some ⟨g4, n, none⟩) j (cpt bs d j) := by
        rw [show n + j - n = j by omega] at hB2
        have e : (cpy bs d j).drop n = cpt bs d j := by unfold cpt; rw [HXL.out]
        rw [e] at hB2
        rw [show Option.map (fun x : Addr => x.add n) (some ⟨g4, 0, none⟩) = some ⟨g4, n, none⟩ by simp only [Option.map_some, Go.addr_add, Nat.zero_add]] at hB2
        exact hB2
      have HB := Lib.hid hB
      have HB3 := Lib.hid hB3
      clear hB hB2 hB3
      by_cases hcn : n = c4
      · subst hcn
        obtain rfl : j = 0 := by omega
        go_wp2
        go_quiet (fail)
        go_wp2
        go_ret2
        exact ⟨g4, n, _, _, rfl, by omega, HB.out, ⟨cpt_len bs d 0 ▸ by simp [cpt, cpy], fun h => by omega⟩, hW4.out.drewN' _⟩
      · have hcn' : ¬ c4 = n := fun e => hcn e.symm
        obtain ⟨M, hM⟩ : ∃ M, n + j = M := ⟨_, rfl⟩
        have HM := Lib.hid hM
        rw [hM] at hO4 hc4 ⊢
        have i1 : (n : Int) ≤ (M : Int) := by omega
        have i2 : ((M : Int) - (n : Int)).toNat = j := by omega
        have i3 : M - n = j := by omega
        clear hM dk
        go_wp2
        go_quiet (fail)
        go_wp2
        go_ret2
        unfold RCopyP
        rw [HM.out]
        rw [HM.out] at HB
        exact ⟨g4, c4, some ⟨g4, n, none⟩, _, by first | rfl | (rw [← i3]; rfl), hc4, HB.out, HB3.out, hW4.out.drewN' _⟩
end Go.Proofs.Ytphphejabgjnjaa
