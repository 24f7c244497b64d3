import Derived.Test.YtfbjcdjjjggheaaRows
import Derived.Test.YtfbjcdjjjggheaaOver
import Derived.Test.YtfbjcdjjjggheaaBlk
import Derived.WalkSpells
import Derived.WalkLawsBesides
import Derived.Lib.Hide
import Derived.LoopTactic
namespace Go.Proofs.Ytfbjcdjjjggheaa
open Go.RowKit

theorem ret_int {k : IntKind} {a b : Int} (h : a = b) : Ending.returned (.int k a) = .returned (.int k b) := by rw [h]
theorem ret_bool {a b : Bool} (h : a = b) : Ending.returned (.bool a) = .returned (.bool b) := by rw [h]
theorem bcell {W w1 : World} (hb : Below W.heap.size W w1) : (∀ b o, b < W.heap.size → w1.cell? ⟨b, o, none⟩ = W.cell? ⟨b, o, none⟩) ∧ (∀ b o, b < W.heap.size → w1.frozen? ⟨b, o, none⟩ = W.frozen? ⟨b, o, none⟩) :=
  ⟨fun b o h => hb.cell (p := ⟨b, o, none⟩) h, fun b o h => hb.frozen (p := ⟨b, o, none⟩) h⟩
def rightQ (a b : Int) : Bool := decide (1 ≤ a) && decide (a ≤ 16777216) && decide (0 ≤ b) && decide (b ≤ 16777216)
set_option maxHeartbeats 1000000 in
theorem right_any (a b : Int) (w : World) :
    Calls Try.prog 7 #[.agg #[.int .i64 a, .int .i64 b]] w fun e w' => e = .returned (.bool (rightQ a b)) ∧ Below w.heap.size w w' := by
  go_enter Try.func7, Try.ntmps7
  go_wp2
  all_goals
    go_ret
    refine ⟨ret_bool ?_, (Below.refl _ _).alloc (Nat.le_refl _) _⟩
    simp_all [rightQ]
    try omega
theorem right_b {a b : Int} {r : Bool} (w : World) (h : rightQ a b = r) : Calls Try.prog 7 #[.agg #[.int .i64 a, .int .i64 b]] w fun e w' => e = .returned (.bool r) ∧ Below w.heap.size w w' := by
  rw [← h]; exact right_any a b w
/-- An account's block. -/
def Acc (w : World) (g : Nat) (W S a s p : Int) : Prop := Whole w g 41 #[.int .i64 W, .int .i64 S, .int .i64 a, .int .i64 s, .int .i64 p]
set_option maxHeartbeats 1000000 in
theorem new_right (a b : Int) (w : World) (h : rightQ a b = true) :
    Calls Try.prog 6 #[.agg #[.int .i64 a, .int .i64 b]] w fun e w' => ∃ g, e = .returned (.tuple #[.pointer (some ⟨g, 0, none⟩), .int .i64 0]) ∧ w.heap.size ≤ g ∧ Acc w' g a b 0 0 0 ∧ Below w.heap.size w w' := by
  have H := Lib.hid h
  clear h
  go_enter Try.func6, Try.ntmps6
  go_wp2_with fail
  refine (right_b _ H.out).mono ?_
  rintro e w1 ⟨rfl, hb1⟩
  have k0 := fun o => (bcell hb1).1 w.heap.size o (by simp)
  have HB := Lib.hid (((Below.refl _ _).alloc (Nat.le_refl w.heap.size) _).trans (hb1.mono (by simp)))
  clear hb1
  go_wp2
  refine bodyPost_ret (v := .tuple #[.pointer (some ⟨w1.heap.size, 0, none⟩), .int .i64 0]) (by simp [results, Try.results6, go_sem]) rfl ⟨_, rfl, HB.out.size, Whole.new _ _ _ rfl, HB.out.alloc HB.out.size _⟩
set_option maxHeartbeats 1000000 in
theorem new_wrong (a b : Int) (w : World) (h : rightQ a b = false) :
    Calls Try.prog 6 #[.agg #[.int .i64 a, .int .i64 b]] w fun e w' => e = .returned (.tuple #[.pointer none, .int .i64 1]) ∧ Below w.heap.size w w' := by
  have H := Lib.hid h
  clear h
  go_enter Try.func6, Try.ntmps6
  go_wp2_with fail
  refine (right_b _ H.out).mono ?_
  rintro e w1 ⟨rfl, hb1⟩
  have HB := Lib.hid (((Below.refl _ _).alloc (Nat.le_refl w.heap.size) _).trans (hb1.mono (by simp)))
  clear hb1
  go_wp2
  go_ret2
  exact ⟨rfl, HB.out⟩

def addC (W S a s n : Int) : Int := if n < 0 then 1 else if S - s < n then 13 else if W - a < n then 9 else 0
def addA (W S a s n : Int) : Int := if addC W S a s n = 0 then a + n else a
def addS (W S a s n : Int) : Int := if addC W S a s n = 0 then s + n else s
def addP (W S a s p n : Int) : Int := if addC W S a s n = 0 then max p (a + n) else p
structure Inv (W S a s p : Int) : Prop where
  w0 : 1 ≤ W
  w1 : W ≤ 16777216
  s0 : 0 ≤ S
  s1 : S ≤ 16777216
  a0 : 0 ≤ a
  a1 : a ≤ W
  t0 : 0 ≤ s
  t1 : s ≤ S
  p0 : 0 ≤ p
  p1 : p ≤ W
set_option maxHeartbeats 1000000 in
theorem add_any (g : Nat) (W S a s p n : Int) (w : World) (hA : Acc w g W S a s p) (hI : Inv W S a s p) :
    Calls Try.prog 10 #[.pointer (some ⟨g, 0, none⟩), .int .i64 n] w fun e w' => e = .returned (.int .i64 (addC W S a s n)) ∧ Acc w' g W S (addA W S a s n) (addS W S a s n) (addP W S a s p n) ∧ Alone w w' g := by
  obtain ⟨i1, i2, i3, i4, i5, i6, i7, i8, i9, i10⟩ := hI
  have c := hA.cell
  have f := hA.free
  by_cases h1 : n < 0
  · have e0 : addC W S a s n = 1 := if_pos h1
    have E0 := Lib.hid e0
    clear e0
    go_enter Try.func10, Try.ntmps10
    go_wp2
    go_ret
    unfold addA addS addP
    rw [E0.out]
    exact ⟨rfl, hA, Alone.refl _ _⟩
  by_cases h2 : S - s < n
  · have e0 : addC W S a s n = 13 := by unfold addC; rw [if_neg h1, if_pos h2]
    have E0 := Lib.hid e0
    clear e0
    go_enter Try.func10, Try.ntmps10
    go_wp2
    go_quiet (fail)
    go_wp2
    go_ret
    unfold addA addS addP
    rw [E0.out]
    exact ⟨rfl, hA.drewN _, (Alone.refl _ _).drewN _⟩
  by_cases h3 : W - a < n
  · have e0 : addC W S a s n = 9 := by unfold addC; rw [if_neg h1, if_neg h2, if_pos h3]
    have E0 := Lib.hid e0
    clear e0
    go_enter Try.func10, Try.ntmps10
    go_wp2
    go_quiet (fail)
    go_wp2
    go_quiet (fail)
    go_wp2
    go_ret
    unfold addA addS addP
    rw [E0.out]
    exact ⟨rfl, by first | exact hA.drewN _ | exact (hA.drewN _).drewN _, by first | exact (Alone.refl _ _).drewN _ | exact ((Alone.refl _ _).drewN _).drewN _⟩
  · have e0 : addC W S a s n = 0 := by unfold addC; rw [if_neg h1, if_neg h2, if_neg h3]
    have E0 := Lib.hid e0
    clear e0
    have h4 : (0 : Int) ≤ n := by omega
    have h5 : n ≤ 16777216 := by omega
    have h6 : a + n ≤ 16777216 := by omega
    have h7 : s + n ≤ 16777216 := by omega
    go_enter Try.func10, Try.ntmps10
    go_wp2
    go_quiet (fail)
    go_wp2
    go_quiet (fail)
    go_wp2
    refine wp_region_tail 12 (by kernel_rfl) (by kernel_rfl) ?_
    simp only [List.take_succ_cons, List.take_zero, List.drop_succ_cons, List.drop_zero]
    repeat still_step
    refine wpStill_nil ?_
    go_wp2
    all_goals
      go_ret
      unfold addA addS addP
      rw [E0.out]
      simp only [if_true]
      refine ⟨rfl, Whole.drew (((hA.drewN _).put 3 _ rfl).put 2 _ rfl |>.put 4 _ ?_), ((((Alone.refl _ _).drewN _).put _ _).put _ _).put _ _⟩
      simp
      omega
def doneC (a n : Int) : Int := if n < 0 ∨ a < n then 1 else 0
def doneA (a n : Int) : Int := if doneC a n = 0 then a - n else a
set_option maxHeartbeats 1000000 in
theorem done_any (g : Nat) (W S a s p n : Int) (w : World) (hA : Acc w g W S a s p) (hI : Inv W S a s p) :
    Calls Try.prog 8 #[.pointer (some ⟨g, 0, none⟩), .int .i64 n] w fun e w' => e = .returned (.int .i64 (doneC a n)) ∧ Acc w' g W S (doneA a n) s p ∧ Alone w w' g := by
  obtain ⟨i1, i2, i3, i4, i5, i6, i7, i8, i9, i10⟩ := hI
  have c := hA.cell
  have f := hA.free
  by_cases h1 : n < 0
  · have e0 : doneC a n = 1 := if_pos (Or.inl h1)
    have E0 := Lib.hid e0
    clear e0
    go_enter Try.func8, Try.ntmps8
    go_wp2
    go_ret
    unfold doneA
    rw [E0.out]
    exact ⟨rfl, hA, Alone.refl _ _⟩
  by_cases h2 : a < n
  · have e0 : doneC a n = 1 := if_pos (Or.inr h2)
    have E0 := Lib.hid e0
    clear e0
    go_enter Try.func8, Try.ntmps8
    go_wp2
    go_ret
    unfold doneA
    rw [E0.out]
    exact ⟨rfl, hA, Alone.refl _ _⟩
  · have e0 : doneC a n = 0 := if_neg (by omega)
    have E0 := Lib.hid e0
    clear e0
    go_enter Try.func8, Try.ntmps8
    go_wp2
    go_ret
    unfold doneA
    rw [E0.out]
    exact ⟨rfl, hA.put 2 _ rfl, (Alone.refl _ _).put _ _⟩
set_option maxHeartbeats 1000000 in
theorem room_any (g : Nat) (W S a s p : Int) (w : World) (hA : Acc w g W S a s p) (hI : Inv W S a s p) :
    Calls Try.prog 17 #[.pointer (some ⟨g, 0, none⟩)] w fun e w' => e = .returned (.int .i64 (min (S - s) (W - a))) ∧ Acc w' g W S a s p ∧ Alone w w' g := by
  obtain ⟨i1, i2, i3, i4, i5, i6, i7, i8, i9, i10⟩ := hI
  have c := hA.cell
  go_enter Try.func17, Try.ntmps17
  go_wp2
  go_quiet (fail)
  go_wp2
  all_goals
    go_ret
    exact ⟨ret_int (by omega), hA.drewN _, (Alone.refl _ _).drewN _⟩
theorem Inv.add {W S a s p : Int} (h : Inv W S a s p) (n : Int) : Inv W S (addA W S a s n) (addS W S a s n) (addP W S a s p n) := by
  obtain ⟨i1, i2, i3, i4, i5, i6, i7, i8, i9, i10⟩ := h
  unfold addA addS addP
  by_cases h1 : n < 0
  · have e0 : addC W S a s n = 1 := if_pos h1
    rw [e0]
    exact ⟨i1, i2, i3, i4, i5, i6, i7, i8, i9, i10⟩
  by_cases h2 : S - s < n
  · have e0 : addC W S a s n = 13 := by unfold addC; rw [if_neg h1, if_pos h2]
    rw [e0]
    exact ⟨i1, i2, i3, i4, i5, i6, i7, i8, i9, i10⟩
  by_cases h3 : W - a < n
  · have e0 : addC W S a s n = 9 := by unfold addC; rw [if_neg h1, if_neg h2, if_pos h3]
    rw [e0]
    exact ⟨i1, i2, i3, i4, i5, i6, i7, i8, i9, i10⟩
  · have e0 : addC W S a s n = 0 := by unfold addC; rw [if_neg h1, if_neg h2, if_neg h3]
    rw [e0]
    simp only [if_true]
    exact ⟨i1, i2, i3, i4, by omega, by omega, by omega, by omega, by omega, by omega⟩
theorem Inv.done {W S a s p : Int} (h : Inv W S a s p) (n : Int) : Inv W S (doneA a n) s p := by
  obtain ⟨i1, i2, i3, i4, i5, i6, i7, i8, i9, i10⟩ := h
  unfold doneA doneC
  by_cases hh : n < 0 ∨ a < n
  · rw [if_pos hh]; exact ⟨i1, i2, i3, i4, i5, i6, i7, i8, i9, i10⟩
  · rw [if_neg hh]; exact ⟨i1, i2, i3, i4, by simp; omega, by simp; omega, i7, i8, i9, i10⟩
theorem Inv.new {W S : Int} (h : rightQ W S = true) : Inv W S 0 0 0 := by
  simp only [rightQ, Bool.and_eq_true, decide_eq_true_eq] at h
  exact ⟨by omega, by omega, by omega, by omega, by omega, by omega, by omega, by omega, by omega, by omega⟩
end Go.Proofs.Ytfbjcdjjjggheaa
