/- The writer of bits: New, Put. -/
import Derived.Test.YthpbiakjkmhfeaaChecked
import Derived.Test.YthpbiakjkmhfeaaRows
import Derived.Test.YthpbiakjkmhfeaaShapes
import Derived.Test.YthpbiakjkmhfeaaOver
import Derived.Test.YthpbiakjkmhfeaaBits
import Derived.Test.YthpbiakjkmhfeaaBlk
import Derived.Test.YthpbiakjkmhfeaaBytes
import Derived.Test.YthpbiakjkmhfeaaFill
import Derived.Test.YthpbiakjkmhfeaaSoft
import Derived.WalkSpells
import Derived.WalkLawsBesides
import Derived.Lib.Hide
import Derived.Lib.ItoaNum
import Derived.OneCell
import Derived.LoopTactic
import Derived.Deep.RegionHeldLaw
import Derived.Deep.AppendLies
namespace Go.Proofs.Ythpbiakjkmhfeaa
open Go.RowKit

/-- What a call may turn: the blocks that S names, and new ones. -/
def Chg (w w' : World) (S : Nat → Prop) : Prop := w'.os = w.os ∧ w'.tape = w.tape ∧ w'.output = w.output ∧ w.heap.size ≤ w'.heap.size ∧ ∀ k, k < w.heap.size → ¬ S k → w'.heap[k]? = w.heap[k]?
section
variable {w w' w'' : World} {S S' : Nat → Prop}
theorem Chg.refl (w : World) (S : Nat → Prop) : Chg w w S := ⟨rfl, rfl, rfl, Nat.le_refl _, fun _ _ _ => rfl⟩
theorem Chg.size (h : Chg w w' S) : w.heap.size ≤ w'.heap.size := h.2.2.2.1
theorem Chg.trans (h : Chg w w' S) (h' : Chg w' w'' S') (hS : ∀ k, k < w.heap.size → S' k → S k) : Chg w w'' S :=
  ⟨h'.1.trans h.1, h'.2.1.trans h.2.1, h'.2.2.1.trans h.2.2.1, Nat.le_trans h.size h'.size, fun k hk hn => (h'.2.2.2.2 k (Nat.lt_of_lt_of_le hk h.size) (fun q => hn (hS k hk q))).trans (h.2.2.2.2 k hk hn)⟩
theorem Chg.of_below (h : Below w.heap.size w w') : Chg w w' S := ⟨h.os, h.tape, h.output, h.size, fun k hk _ => h.block k hk⟩
theorem Chg.drew (h : Chg w w' S) : Chg w w'.drew S := h
theorem Chg.drewN (h : Chg w w' S) (n : Nat) : Chg w (w'.drewN n) S := h
theorem Chg.alloc (h : Chg w w' S) (o : Obj) : Chg w (w'.alloc o) S := h.trans (S' := S) (Chg.of_below ((Below.refl _ _).alloc (Nat.le_refl _) o)) fun _ _ q => q
theorem Chg.put (h : Chg w w' S) (g i : Nat) (u : Value) (hg : S g) : Chg w (w'.setCell ⟨g, i, none⟩ u) S :=
  h.trans (S' := S) ⟨rfl, rfl, rfl, by simp, fun k _ hn => Below.heap_setCell w' ⟨g, i, none⟩ u k (fun e => hn (e ▸ hg))⟩ fun _ _ q => q
theorem Chg.grown {row : Option Nat} (h : Chg w w' S) (hg : w'.grownBy w'' row) (hr : ∀ b, row = some b → b < w.heap.size → S b) : Chg w w'' S :=
  h.trans (S' := fun b => row = some b) ⟨hg.os, hg.tape, hg.output, hg.size, fun k hk hn => hg.block k hk (fun e => hn e.symm)⟩ fun k hk q => hr k q hk
theorem Chg.below {B : Nat} {a : World} (hb : Below B a w) (h : Chg w w' S) (hS : ∀ k, k < B → ¬ S k) (hB : B ≤ w.heap.size) : Below B a w' :=
  hb.trans ⟨h.1, h.2.1, h.2.2.1, h.2.2.2.1, fun k hk => h.2.2.2.2 k (by omega) (hS k hk)⟩
theorem Chg.whole (h : Chg w w' S) {k : Nat} {t : TypeId} {cs : Array Value} (hw : Whole w k t cs) (hg : ¬ S k) : Whole w' k t cs := (h.2.2.2.2 k hw.lt hg).trans hw
end

theorem info_parts {t : TypeId} {z : Value} {s b : Nat} (h : (Try.prog.info? t).map (fun i => (i.zero, i.size, i.bytes)) = some (some z, s, b)) : ∃ i, Try.prog.info? t = some i ∧ i.zero = some z ∧ i.size = s ∧ i.bytes = b := by
  cases hi : Try.prog.info? t with
  | none => rw [hi] at h; cases h
  | some i =>
    rw [hi] at h
    simp at h
    exact ⟨i, rfl, h.1, h.2.1, h.2.2⟩
theorem info5 : (Try.prog.info? 5).map (fun i => (i.zero, i.size, i.bytes)) = some (some (.int .u8 0), 1, 1) := by kernel_rfl

/-- The writer at block g: its bytes D, its open bits L, all its bits N. -/
def Wr (w : World) (base g : Nat) (A : Option Addr) (c : Nat) (D : List UInt8) (L N : Nat) : Prop :=
  L < 2 ^ (N % 8) ∧ Whole w g 48 #[.slice A D.length c, .int .u64 (L : Nat), .int .i64 (N : Nat)] ∧ w.ownsRow base 5 1 (.slice A D.length c) D.length (D.map bv)
/-- The blocks of a writer. -/
def Its (g : Nat) (A : Option Addr) (b : Nat) : Prop := b = g ∨ A.map (·.block) = some b
def Put (w : World) (base g : Nat) (A : Option Addr) (D : List UInt8) (L N : Nat) (r : Value) (e : Ending) (w' : World) : Prop :=
  e = .returned r ∧ ∃ A' c', Wr w' base g A' c' D L N ∧ Chg w w' (Its g A) ∧ (A' = A ∨ ∃ b, w.heap.size ≤ b ∧ A' = some ⟨b, 0, none⟩)

theorem wrap_u64n (n : Nat) (h : n < 18446744073709551616) : IntKind.u64.wrap (n : Int) = n := IntWalk.u64_in _ (by omega)
theorem put_num (L x n o : Nat) (hL : L < 2 ^ o) (ho : o < 8) (hn : n ≤ 32) (hx : x < 4294967296) :
    bits .or .u64 (L : Int) (IntKind.u64.wrap (bits .and .u64 (IntKind.u64.wrap (x : Int)) (IntKind.u64.wrap (IntKind.u64.wrap (2 ^ n) - 1)) * 2 ^ o)) = ((L + x % 2 ^ n * 2 ^ o : Nat) : Int) := by
  have h1 : 2 ^ n ≤ 2 ^ 32 := Nat.pow_le_pow_right (by omega) hn
  have h0 : 0 < 2 ^ n := Nat.pow_pos (by omega)
  have h2 : 2 ^ o ≤ 2 ^ 7 := Nat.pow_le_pow_right (by omega) (by omega)
  have h3 : x % 2 ^ n < 2 ^ n := Nat.mod_lt _ h0
  have h4 : x % 2 ^ n * 2 ^ o ≤ 2 ^ 32 * 2 ^ 7 := Nat.mul_le_mul (by omega) h2
  have e1 : ((2 : Int) ^ n) = ((2 ^ n : Nat) : Int) := by simp
  have e2 : ((2 : Int) ^ o) = ((2 ^ o : Nat) : Int) := by simp
  rw [e1, e2, wrap_u64n _ (by omega), wrap_u64n _ (by omega), show (((2 ^ n : Nat) : Int) - 1) = ((2 ^ n - 1 : Nat) : Int) by omega, wrap_u64n _ (by omega), u64_and_nat _ _ (by omega) (by omega), Nat.and_two_pow_sub_one_eq_mod]
  rw [← Int.natCast_mul, wrap_u64n _ (by omega), u64_or_nat _ _ (by omega) (by omega), Nat.add_comm L, Nat.mul_comm (x % 2 ^ n), Nat.two_pow_add_eq_or_of_lt hL, Nat.or_comm]
theorem own_ne {w : World} {base g n c : Nat} {A : Option Addr} {xs : List Value} {cs : Array Value} (hg : Whole w g 48 cs) (h : w.ownsRow base 5 1 (.slice A n c) n xs) : some g ≠ (Value.slice A n c).ownBlock := by
  rcases h.2 with ⟨h1, _⟩ | ⟨b, cap, cur, h1, _, h2, _⟩
  · injection h1 with h1
    subst h1
    intro e
    cases e
  · injection h1 with h1
    subst h1
    intro e
    injection e with e
    subst e
    unfold Whole at hg
    rw [hg] at h2
    injection h2 with h2
    injection h2 with _ h2
    cases h2
theorem own_head {w : World} {base g n c e sz : Nat} {A : Option Addr} {xs : List Value} (h : w.ownsRow base e sz (.slice A n c) n xs) (hb : (Value.slice A n c).ownBlock = some g) : A = some ⟨g, 0, none⟩ := by
  rcases h.2 with ⟨h1, _⟩ | ⟨b, cap, cur, h1, _⟩
  · injection h1 with h1
    subst h1
    cases hb
  · injection h1 with h1
    subst h1
    injection hb with hb
    simp at hb
    rw [hb]
theorem u8_wrap_nat (y : Nat) : IntKind.u8.wrap (y : Int) = ((y % 256 : Nat) : Int) := by rw [IntKind.wrap_u8]; omega
theorem bytes_step (X k y : Nat) (D : List UInt8) (h : X / 256 ^ k = y) : (D ++ leB X (k + 1)).map bv = (D ++ leB X k).map bv ++ [.int .u8 (IntKind.u8.wrap (y : Int))] := by
  rw [leB_succ, ← List.append_assoc, List.map_append, List.map_singleton, u8_wrap_nat]
  show _ ++ [Value.int .u8 ((oct X k).toNat : Int)] = _
  rw [oct_nat, h]
theorem open_lt (X o n k q : Nat) (h : X < 2 ^ (o + n)) (hq : 8 * k + q = o + n) : X / 256 ^ k < 2 ^ q := by
  rw [← hq, Nat.pow_add, Nat.pow_mul] at h
  exact Nat.div_lt_of_lt_mul h
/-- Amid Put: k bytes are put. -/
def PR (w wr : World) (base g : Nat) (A : Option Addr) (D : List UInt8) (X N k : Nat) : Prop :=
  ∃ A' c', Whole wr g 48 #[.slice A' (D.length + k) c', .int .u64 (X / 256 ^ k : Nat), .int .i64 (N : Nat)] ∧ wr.ownsRow base 5 1 (.slice A' (D.length + k) c') (D.length + k) ((D ++ leB X k).map bv) ∧ Chg w wr (Its g A) ∧ (A' = A ∨ ∃ b, w.heap.size ≤ b ∧ A' = some ⟨b, 0, none⟩)

theorem new_any (w : World) : Calls Try.prog 7 #[] w fun e w' => e = .returned (.pointer (some ⟨w.heap.size, 0, none⟩)) ∧ w' = w.alloc (.cells #[.slice none 0 0, .int .u64 0, .int .i64 0] 48) := by
  go_enter Try.func7, Try.ntmps7
  go_wp2
  go_ret
  exact ⟨rfl, rfl⟩
theorem new_wr (w : World) (base : Nat) : Wr (w.alloc (.cells #[.slice none 0 0, .int .u64 0, .int .i64 0] 48)) base w.heap.size none 0 [] 0 0 :=
  ⟨by simp, Whole.new w 48 _ rfl, World.ownsRow_nil _ _ _ _⟩
theorem put_bad (g : Nat) (x : Nat) (n : Int) (w : World) (hn : n < 0 ∨ 32 < n) : Calls Try.prog 8 #[.pointer (some ⟨g, 0, none⟩), .int .u32 x, .int .i64 n] w fun e w' => e = .returned (.bool false) ∧ w = w' := by
  by_cases d1 : n < 0
  · have e1 : decide (n < 0) = true := by simpa using d1
    go_enter Try.func8, Try.ntmps8
    go_wp2
    go_ret
    exact ⟨rfl, rfl⟩
  · have e1 : decide (n < 0) = false := by simpa using d1
    have e2 : decide (32 < n) = true := by have := hn.resolve_left d1; simpa using this
    go_enter Try.func8, Try.ntmps8
    go_wp2
    go_ret
    exact ⟨rfl, rfl⟩
set_option maxHeartbeats 4000000 in
theorem put_any (base g : Nat) (A : Option Addr) (c : Nat) (D : List UInt8) (L N x n : Nat) (w : World) (hW : Wr w base g A c D L N) (hn : n ≤ 32) (hx : x < 4294967296) (hN : N ≤ 1099511627776) (hD : D.length ≤ 1099511627776) (hb : base ≤ g) :
    Calls Try.prog 8 #[.pointer (some ⟨g, 0, none⟩), .int .u32 x, .int .i64 (n : Nat)] w (Put w base g A (D ++ leB (L + x % 2 ^ n * 2 ^ (N % 8)) ((N % 8 + n) / 8)) ((L + x % 2 ^ n * 2 ^ (N % 8)) / 256 ^ ((N % 8 + n) / 8)) (N + n) (.bool true)) := by
  obtain ⟨hL, hg, hO⟩ := hW
  have e1 : decide ((n : Int) < 0) = false := by simp
  have e2 : decide (32 < (n : Int)) = false := by simp; omega
  have c0 := hg.cell 0
  have c1 := hg.cell 1
  have c2 := hg.cell 2
  have f0 := hg.free 0
  have f1 := hg.free 1
  have f2 := hg.free 2
  obtain ⟨o, ho⟩ : ∃ o, N % 8 = o := ⟨_, rfl⟩
  have ho' : (N : Int) % 8 = (o : Nat) := by omega
  have ho7 : o < 8 := by omega
  rw [ho] at hL
  have HX := Lib.hid (put_num L x n o hL ho7 hn hx)
  rw [ho]
  obtain ⟨X, hX⟩ : ∃ X, L + x % 2 ^ n * 2 ^ o = X := ⟨_, rfl⟩
  have HXs : Hid (X < 256 ^ 5) := by
    have h1 : 2 ^ n ≤ 2 ^ 32 := Nat.pow_le_pow_right (by omega) hn
    have h0 : 0 < 2 ^ n := Nat.pow_pos (by omega)
    have h2 : 2 ^ o ≤ 2 ^ 7 := Nat.pow_le_pow_right (by omega) (by omega)
    have h3 : x % 2 ^ n < 2 ^ n := Nat.mod_lt _ h0
    have h4 : x % 2 ^ n * 2 ^ o ≤ 2 ^ 32 * 2 ^ 7 := Nat.mul_le_mul (by omega) h2
    refine Lib.hid ?_
    omega
  have HXo : Hid (X < 2 ^ (o + n)) := by
    have h0 : 0 < 2 ^ n := Nat.pow_pos (by omega)
    have h3 : x % 2 ^ n < 2 ^ n := Nat.mod_lt _ h0
    have h4 : (x % 2 ^ n + 1) * 2 ^ o ≤ 2 ^ n * 2 ^ o := Nat.mul_le_mul_right _ h3
    refine Lib.hid ?_
    rw [← hX, Nat.pow_add, Nat.mul_comm (2 ^ o) (2 ^ n)]
    rw [Nat.add_mul] at h4
    omega
  rw [hX] at HX
  rw [hX]
  have HN := Lib.hid ho
  have HG := Lib.hid hg
  have HO := Lib.hid hO
  clear hX hg hO ho hL
  go_enter Try.func8, Try.ntmps8
  go_wp2
  refine wp_region_tail 15 (by kernel_rfl) (by kernel_rfl) ?_
  simp only [List.take_succ_cons, List.take_zero, List.drop_succ_cons, List.drop_zero]
  repeat still_step
  refine wpStill_nil ?_
  rw [HX.out]
  go_wp2
  have HP : Hid (PR w ((w.drew.setCell ⟨g, 1, none⟩ (.int .u64 X)).setCell ⟨g, 2, none⟩ (.int .i64 ((N + n : Nat) : Int))) base g A D X (N + n) 0) := by
    refine Lib.hid ⟨A, c, ?_, ?_, ?_, .inl rfl⟩
    · rw [Nat.pow_zero, Nat.div_one, Nat.add_zero]
      exact (HG.out.drew.put 1 _ rfl).put 2 _ rfl
    · have h1 : (w.drew.setCell ⟨g, 1, none⟩ (.int .u64 X)).ownsRow base 5 1 (.slice A D.length c) D.length (D.map bv) := ownsRow_setCell_other (w := w.drew) (a := ⟨g, 1, none⟩) HO.out (own_ne HG.out HO.out).symm _
      rw [Nat.add_zero, show D ++ leB X 0 = D from by simp [leB]]
      exact ownsRow_setCell_other (a := ⟨g, 2, none⟩) h1 (own_ne HG.out HO.out).symm _
    · exact (((Chg.refl w _).drew).put g 1 _ (.inl rfl)).put g 2 _ (.inl rfl)
  clear c0 c1 c2 f0 f1 f2 ho' HX e1 e2 HG HO
  go_loopw [7] (fun q wr => ∃ k q', q = .int .i64 (q' : Nat) ∧ 8 * k + q' = o + n ∧ Hid (PR w wr base g A D X (N + n) k)) (fun q _ => (intOf q).toNat)
  case atStart => exact ⟨0, o + n, by go_num, by omega, HP⟩
  case round =>
    obtain ⟨k, q, rfl, hq, hP⟩ := hrel
    obtain ⟨A2, cc, hg, ho2, hC, hA2⟩ := hP.out
    by_cases hlt : 8 ≤ q
    · have d1 : decide (8 ≤ (q : Int)) = true := by simp; omega
      obtain ⟨y, hy⟩ : ∃ y, X / 256 ^ k = y := ⟨_, rfl⟩
      obtain ⟨k2, hk2⟩ : ∃ k2, D.length + k = k2 := ⟨_, rfl⟩
      rw [hy, hk2] at hg
      rw [hk2] at ho2
      have HY := Lib.hid hy
      have HK2 := Lib.hid hk2
      have hk2b : k2 ≤ 1099511627800 := by omega
      have hyb : y < 1099511627776 := by have := Nat.div_le_self X (256 ^ k); have := HXs.out; omega
      have c0 := hg.cell 0
      have c1 := hg.cell 1
      have c2 := hg.cell 2
      have f0 := hg.free 0
      have f1 := hg.free 1
      have HG := Lib.hid hg
      have HO := Lib.hid ho2
      have HC := Lib.hid hC
      have HNE := Lib.hid (own_ne hg ho2)
      have HA2 := Lib.hid hA2
      have hgl := hg.lt
      clear hy hk2 hg ho2 hC hA2 hP HP
      obtain ⟨i0, hi, hz0, hz1, hz2⟩ := info_parts info5
      go_wp2
      have HG := Lib.hid (show Whole wr.drew g 48 #[.slice A2 k2 cc, .int .u64 (y : Nat), .int .i64 ((N + n : Nat) : Int)] from HG.out)
      have HO := Lib.hid (show wr.drew.ownsRow base 5 1 (.slice A2 k2 cc) k2 ((D ++ leB X k).map bv) from HO.out)
      go_region_law (first
        | (refine step_append_lies _ (by rfl) (.tmp 53) (.tmp 59) 27 (by rfl) base 5 i0 _ 1 1 Try.underlying27 hi hz0 hz1 hz2 rfl (by omega) (.slice A2 k2 cc) k2 _ (by rfl) (HO.out.alloc _)
            ⟨wr.heap.size, 0, none⟩ 1 1 [.int .u8 (IntKind.u8.wrap (y : Int))] (by rfl) (by rfl) (World.news_of_block (cs := #[.int .u8 (IntKind.u8.wrap (y : Int))]) (t := 5) (fr := (0, 0)) (heap_alloc_new _ _)) (by simp [Value.oneCell'])
            (by omega) (by unfold maxLen; omega) (by omega) (by simp; omega) (wr.heap.size + 1) (by simp) ?_
           intro gg cap wx hown1 hgrow hat hlt1
           have q0 := ((HG.out.alloc _).grown hgrow HNE.out).cell 0
           have q1 := ((HG.out.alloc _).grown hgrow HNE.out).free 0))
      all_goals
        have HGx := Lib.hid ((HG.out.alloc (.cells #[.int .u8 (IntKind.u8.wrap (y : Int))] 5)).grown hgrow HNE.out)
        have r1 := HGx.out.cell 1
        have r2 := HGx.out.free 1
        have HCx : Hid (Chg w wx (Its g A)) := Lib.hid (((HC.out.drew).alloc _).grown hgrow (fun b hb2 hb3 => by
          rcases HA2.out with rfl | ⟨b4, h4, rfl⟩
          · exact .inr (by cases A2 with | none => cases hb2 | some a => injection hb2 with hb2; simp [hb2])
          · injection hb2 with hb2
            simp at hb2
            omega))
        have hat' : some ⟨gg, 0, none⟩ = A ∨ ∃ b, w.heap.size ≤ b ∧ (some ⟨gg, 0, none⟩ : Option Addr) = some ⟨b, 0, none⟩ := by
          rcases hat with h | h
          · rcases HA2.out with rfl | ⟨b4, h4, rfl⟩
            · exact .inl (own_head HO.out h).symm
            · injection h with h
              simp at h
              exact .inr ⟨gg, by omega, rfl⟩
          · exact .inr ⟨gg, by have := HC.out.size; omega, rfl⟩
        clear c0 c1 c2 f0 f1
        go_wp2
        refine ⟨⟨k + 1, q - 8, by go_num, by omega, ?_⟩, by simp [intOf]; omega⟩
        have hd : y / 256 = X / 256 ^ (k + 1) := by rw [← HY.out, Nat.pow_succ, Nat.div_div_eq_div_mul]
        have hne := own_ne HGx.out hown1
        refine Lib.hid ⟨some ⟨gg, 0, none⟩, cap, ?_, ?_, ?_, hat'⟩
        · rw [← hd, show D.length + (k + 1) = k2 + 1 by have := HK2.out; omega]
          exact (HGx.out.put 0 _ rfl).put 1 _ (by simp)
        · rw [bytes_step X k y D HY.out, show D.length + (k + 1) = k2 + 1 by have := HK2.out; omega]
          exact ownsRow_setCell_other (a := ⟨g, 1, none⟩) (ownsRow_setCell_other (a := ⟨g, 0, none⟩) hown1 hne.symm _) hne.symm _
        · exact (HCx.out.put g 0 _ (.inl rfl)).put g 1 _ (.inl rfl)
    · have d1 : decide (8 ≤ (q : Int)) = false := by simp; omega
      have hk : (o + n) / 8 = k := by omega
      have hl := open_lt X o n k q HXo.out hq
      have hm : (N + n) % 8 = q := by have := HN.out; omega
      have HK := Lib.hid hk
      clear hk
      go_wp2
      go_ret
      rw [HK.out]
      refine ⟨rfl, A2, cc, ⟨by rw [hm]; exact hl, ?_, ?_⟩, hC, hA2⟩
      · rw [show (D ++ leB X k).length = D.length + k by simp [leB_len]]
        exact hg
      · rw [show (D ++ leB X k).length = D.length + k by simp [leB_len]]
        exact ho2
end Go.Proofs.Ythpbiakjkmhfeaa
