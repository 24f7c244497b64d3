/- Times. -/
import Derived.Test.YtdmglpnieiiigaaDoorF1
import Derived.Test.YtdmglpnieiiigaaDoorOver
import Derived.Test.YtdmglpnieiiigaaDoorBits
import Derived.Test.YtdmglpnieiiigaaDoorBlk
import Derived.Test.YtdmglpnieiiigaaDoorShapes
import Derived.LoopTactic
namespace Go.Proofs.YtdmglpnieiiigaaDoor
open Go.RowKit

theorem ret_int {k : IntKind} {a b : Int} (h : a = b) : Ending.returned (.int k a) = .returned (.int k b) := by rw [h]
theorem ret_bool {a b : Bool} (h : a = b) : Ending.returned (.bool a) = .returned (.bool b) := by rw [h]
def leap (y : Int) : Bool := (decide (y.tmod 4 = 0) && !decide (y.tmod 100 = 0)) || decide (y.tmod 400 = 0)
def daysI (y m : Int) : Int := if m = 2 then (if leap y then 29 else 28) else if m = 4 ∨ m = 6 ∨ m = 9 ∨ m = 11 then 30 else if m = 1 ∨ m = 3 ∨ m = 5 ∨ m = 7 ∨ m = 8 ∨ m = 10 ∨ m = 12 then 31 else 0

set_option maxHeartbeats 400000 in
theorem days_any (y m : Int) (w : World) :
    Calls Tryd.prog 60 #[.int .i64 y, .int .i64 m] w fun e w' => e = .returned (.int .i64 (daysI y m)) ∧ w = w' := by
  go_enter Tryd.func60, Tryd.ntmps60
  go_wp2
  all_goals
    go_ret
    refine ⟨ret_int ?_, rfl⟩
    simp_all [daysI, leap]

def rightB (y mo d h mi s : Int) : Bool := decide (1980 ≤ y) && decide (y ≤ 2107) && decide (1 ≤ d) && decide (d ≤ daysI y mo) && decide (0 ≤ h) && decide (h ≤ 23) && decide (0 ≤ mi) && decide (mi ≤ 59) && decide (0 ≤ s) && decide (s ≤ 58) && decide (s % 2 = 0)

set_option maxHeartbeats 2000000 in
theorem dright_any (y mo d h mi s : Int) (w : World) :
    Calls Tryd.prog 46 #[.agg #[.int .i64 y, .int .i64 mo, .int .i64 d, .int .i64 h, .int .i64 mi, .int .i64 s]] w fun e w' => e = .returned (.bool (rightB y mo d h mi s)) ∧ Below w.heap.size w w' := by
  by_cases c0 : 1980 ≤ y
  · by_cases c1 : y ≤ 2107
    · by_cases c2 : 1 ≤ d
      · by_cases c3 : d ≤ daysI y mo
        · by_cases c4 : 0 ≤ h
          · by_cases c5 : h ≤ 23
            · by_cases c6 : 0 ≤ mi
              · by_cases c7 : mi ≤ 59
                · by_cases c8 : 0 ≤ s
                  · by_cases c9 : s ≤ 58
                    · by_cases c10 : s % 2 = 0
                      · have q10 : (s % 2 == 0) = true := by simpa using c10
                        go_enter Tryd.func46, Tryd.ntmps46
                        go_wp2
                        go_quiet ((go_at_call 60; exact Calls.quiet_eq (days_any _ _ _)))
                        go_wp2
                        go_ret
                        refine ⟨ret_bool (by simp [rightB]; omega), ?_⟩
                        exact ((Below.refl _ _).alloc (Nat.le_refl _) _).drewN' _
                      · have q10 : (s % 2 == 0) = false := by simpa using c10
                        go_enter Tryd.func46, Tryd.ntmps46
                        go_wp2
                        go_quiet ((go_at_call 60; exact Calls.quiet_eq (days_any _ _ _)))
                        go_wp2
                        go_ret
                        refine ⟨ret_bool (by simp [rightB]; omega), ?_⟩
                        exact ((Below.refl _ _).alloc (Nat.le_refl _) _).drewN' _
                    · have q9 : decide (s ≤ 58) = false := by simpa using c9
                      go_enter Tryd.func46, Tryd.ntmps46
                      go_wp2
                      go_quiet ((go_at_call 60; exact Calls.quiet_eq (days_any _ _ _)))
                      go_wp2
                      go_ret
                      refine ⟨ret_bool (by simp [rightB]; omega), ?_⟩
                      exact ((Below.refl _ _).alloc (Nat.le_refl _) _).drewN' _
                  · have q8 : decide (0 ≤ s) = false := by simpa using c8
                    go_enter Tryd.func46, Tryd.ntmps46
                    go_wp2
                    go_quiet ((go_at_call 60; exact Calls.quiet_eq (days_any _ _ _)))
                    go_wp2
                    go_ret
                    refine ⟨ret_bool (by simp [rightB]; omega), ?_⟩
                    exact ((Below.refl _ _).alloc (Nat.le_refl _) _).drewN' _
                · have q7 : decide (mi ≤ 59) = false := by simpa using c7
                  go_enter Tryd.func46, Tryd.ntmps46
                  go_wp2
                  go_quiet ((go_at_call 60; exact Calls.quiet_eq (days_any _ _ _)))
                  go_wp2
                  go_ret
                  refine ⟨ret_bool (by simp [rightB]; omega), ?_⟩
                  exact ((Below.refl _ _).alloc (Nat.le_refl _) _).drewN' _
              · have q6 : decide (0 ≤ mi) = false := by simpa using c6
                go_enter Tryd.func46, Tryd.ntmps46
                go_wp2
                go_quiet ((go_at_call 60; exact Calls.quiet_eq (days_any _ _ _)))
                go_wp2
                go_ret
                refine ⟨ret_bool (by simp [rightB]; omega), ?_⟩
                exact ((Below.refl _ _).alloc (Nat.le_refl _) _).drewN' _
            · have q5 : decide (h ≤ 23) = false := by simpa using c5
              go_enter Tryd.func46, Tryd.ntmps46
              go_wp2
              go_quiet ((go_at_call 60; exact Calls.quiet_eq (days_any _ _ _)))
              go_wp2
              go_ret
              refine ⟨ret_bool (by simp [rightB]; omega), ?_⟩
              exact ((Below.refl _ _).alloc (Nat.le_refl _) _).drewN' _
          · have q4 : decide (0 ≤ h) = false := by simpa using c4
            go_enter Tryd.func46, Tryd.ntmps46
            go_wp2
            go_quiet ((go_at_call 60; exact Calls.quiet_eq (days_any _ _ _)))
            go_wp2
            go_ret
            refine ⟨ret_bool (by simp [rightB]; omega), ?_⟩
            exact ((Below.refl _ _).alloc (Nat.le_refl _) _).drewN' _
        · have q3 : decide (d ≤ daysI y mo) = false := by simpa using c3
          go_enter Tryd.func46, Tryd.ntmps46
          go_wp2
          go_quiet ((go_at_call 60; exact Calls.quiet_eq (days_any _ _ _)))
          go_wp2
          go_ret
          refine ⟨ret_bool (by simp [rightB]; omega), ?_⟩
          exact ((Below.refl _ _).alloc (Nat.le_refl _) _).drewN' _
      · have q2 : decide (1 ≤ d) = false := by simpa using c2
        go_enter Tryd.func46, Tryd.ntmps46
        go_wp2
        go_quiet ((go_at_call 60; exact Calls.quiet_eq (days_any _ _ _)))
        go_wp2
        go_ret
        refine ⟨ret_bool (by simp [rightB]; omega), ?_⟩
        exact ((Below.refl _ _).alloc (Nat.le_refl _) _).drewN' _
    · have q1 : decide (y ≤ 2107) = false := by simpa using c1
      go_enter Tryd.func46, Tryd.ntmps46
      go_wp2
      go_quiet ((go_at_call 60; exact Calls.quiet_eq (days_any _ _ _)))
      go_wp2
      go_ret
      refine ⟨ret_bool (by simp [rightB]; omega), ?_⟩
      exact ((Below.refl _ _).alloc (Nat.le_refl _) _).drewN' _
  · have q0 : decide (1980 ≤ y) = false := by simpa using c0
    go_enter Tryd.func46, Tryd.ntmps46
    go_wp2
    go_quiet ((go_at_call 60; exact Calls.quiet_eq (days_any _ _ _)))
    go_wp2
    go_ret
    refine ⟨ret_bool (by simp [rightB]; omega), ?_⟩
    exact ((Below.refl _ _).alloc (Nat.le_refl _) _).drewN' _

theorem t400 (y : Int) (h : y.tmod 400 = 0) : y.tmod 4 = 0 := by
  have h1 := Int.dvd_of_tmod_eq_zero h
  exact Int.tmod_eq_zero_of_dvd (by omega)
set_option maxHeartbeats 1000000 in
theorem rdays_any (y m : Int) (w : World) :
    Calls Tryd.prog 59 #[.int .i64 y, .int .i64 m] w fun e w' => e = .returned (.int .i64 (daysI y m)) ∧ Below w.heap.size w w' := by
  by_cases h1 : m < 1
  · go_enter Tryd.func59, Tryd.ntmps59
    go_wp2
    go_ret
    exact ⟨ret_int (by unfold daysI; (repeat rw [if_neg (by omega)])), (Below.refl _ _).alloc (Nat.le_refl _) _⟩
  by_cases h2 : 12 < m
  · go_enter Tryd.func59, Tryd.ntmps59
    go_wp2
    go_ret
    exact ⟨ret_int (by unfold daysI; (repeat rw [if_neg (by omega)])), (Below.refl _ _).alloc (Nat.le_refl _) _⟩
  have h3 : m = 1 ∨ m = 2 ∨ m = 3 ∨ m = 4 ∨ m = 5 ∨ m = 6 ∨ m = 7 ∨ m = 8 ∨ m = 9 ∨ m = 10 ∨ m = 11 ∨ m = 12 := by omega
  clear h1 h2
  rcases h3 with rfl | rfl | rfl | rfl | rfl | rfl | rfl | rfl | rfl | rfl | rfl | rfl
  all_goals
    go_enter Tryd.func59, Tryd.ntmps59
    go_wp2
    all_goals
      go_ret
      exact ⟨ret_int (by have := t400 y; simp_all [daysI, leap]; try omega), (Below.refl _ _).alloc (Nat.le_refl _) _⟩

abbrev tm (y mo d h mi s : Int) : Value := .agg #[.int .i64 y, .int .i64 mo, .int .i64 d, .int .i64 h, .int .i64 mi, .int .i64 s]
theorem bcell {W w1 : World} (hb : Below W.heap.size W w1) : (∀ b o, b < W.heap.size → w1.cell? ⟨b, o, none⟩ = W.cell? ⟨b, o, none⟩) ∧ (∀ b o, b < W.heap.size → w1.frozen? ⟨b, o, none⟩ = W.frozen? ⟨b, o, none⟩) :=
  ⟨fun b o h => hb.cell (p := ⟨b, o, none⟩) h, fun b o h => hb.frozen (p := ⟨b, o, none⟩) h⟩
theorem days_zero (y m : Int) (h : m < 1 ∨ 12 < m) : daysI y m = 0 := by
  unfold daysI
  rw [if_neg (by omega), if_neg (by omega), if_neg (by omega)]
theorem days_le (y m : Int) : 0 ≤ daysI y m ∧ daysI y m ≤ 31 := by
  unfold daysI
  repeat' split
  all_goals omega
set_option maxHeartbeats 2000000 in
theorem rright_any (y mo d h mi s : Int) (w : World) :
    Calls Tryd.prog 45 #[tm y mo d h mi s] w fun e w' => e = .returned (.bool (rightB y mo d h mi s)) ∧ Below w.heap.size w w' := by
  have hz := days_zero y mo
  have HZ := Lib.hid hz
  clear hz
  by_cases c0 : y < 1980
  · have q0 : decide (y < 1980) = true := by simpa using c0
    go_enter Tryd.func45, Tryd.ntmps45
    go_wp2
    refine wp_region_over_lit (by kernel_rfl) (by kernel_rfl) ?_
    repeat (go_big_quiet_step ((go_at_call 59; exact Calls.over_of (rdays_any _ _ _))))
    refine wpQuiet_nil ?_
    intro _ hw1
    obtain ⟨x1, hw2⟩ := hw1
    subst hw2
    go_wp2
    go_ret
    refine ⟨ret_bool (by have := HZ.out; simp [rightB]; omega), ?_⟩
    exact ((Below.refl _ _).alloc (Nat.le_refl _) _).over' (by simp) _
  have q0 : decide (y < 1980) = false := by simpa using c0
  by_cases c1 : 2107 < y
  · have q1 : decide (2107 < y) = true := by simpa using c1
    go_enter Tryd.func45, Tryd.ntmps45
    go_wp2
    refine wp_region_over_lit (by kernel_rfl) (by kernel_rfl) ?_
    repeat (go_big_quiet_step ((go_at_call 59; exact Calls.over_of (rdays_any _ _ _))))
    refine wpQuiet_nil ?_
    intro _ hw1
    obtain ⟨x1, hw2⟩ := hw1
    subst hw2
    go_wp2
    go_ret
    refine ⟨ret_bool (by have := HZ.out; simp [rightB]; omega), ?_⟩
    exact ((Below.refl _ _).alloc (Nat.le_refl _) _).over' (by simp) _
  have q1 : decide (2107 < y) = false := by simpa using c1
  by_cases c2 : mo < 1
  · have q2 : decide (mo < 1) = true := by simpa using c2
    go_enter Tryd.func45, Tryd.ntmps45
    go_wp2
    refine wp_region_over_lit (by kernel_rfl) (by kernel_rfl) ?_
    repeat (go_big_quiet_step ((go_at_call 59; exact Calls.over_of (rdays_any _ _ _))))
    refine wpQuiet_nil ?_
    intro _ hw1
    obtain ⟨x1, hw2⟩ := hw1
    subst hw2
    go_wp2
    go_ret
    refine ⟨ret_bool (by have := HZ.out; simp [rightB]; omega), ?_⟩
    exact ((Below.refl _ _).alloc (Nat.le_refl _) _).over' (by simp) _
  have q2 : decide (mo < 1) = false := by simpa using c2
  by_cases c3 : 12 < mo
  · have q3 : decide (12 < mo) = true := by simpa using c3
    go_enter Tryd.func45, Tryd.ntmps45
    go_wp2
    refine wp_region_over_lit (by kernel_rfl) (by kernel_rfl) ?_
    repeat (go_big_quiet_step ((go_at_call 59; exact Calls.over_of (rdays_any _ _ _))))
    refine wpQuiet_nil ?_
    intro _ hw1
    obtain ⟨x1, hw2⟩ := hw1
    subst hw2
    go_wp2
    go_ret
    refine ⟨ret_bool (by have := HZ.out; simp [rightB]; omega), ?_⟩
    exact ((Below.refl _ _).alloc (Nat.le_refl _) _).over' (by simp) _
  have q3 : decide (12 < mo) = false := by simpa using c3
  by_cases c4 : d < 1
  · have q4 : decide (d < 1) = true := by simpa using c4
    go_enter Tryd.func45, Tryd.ntmps45
    go_wp2
    refine wp_region_over_lit (by kernel_rfl) (by kernel_rfl) ?_
    repeat (go_big_quiet_step ((go_at_call 59; exact Calls.over_of (rdays_any _ _ _))))
    refine wpQuiet_nil ?_
    intro _ hw1
    obtain ⟨x1, hw2⟩ := hw1
    subst hw2
    go_wp2
    go_ret
    refine ⟨ret_bool (by have := HZ.out; simp [rightB]; omega), ?_⟩
    exact ((Below.refl _ _).alloc (Nat.le_refl _) _).over' (by simp) _
  have q4 : decide (d < 1) = false := by simpa using c4
  by_cases c5 : daysI y mo < d
  · have q5 : decide (daysI y mo < d) = true := by simpa using c5
    go_enter Tryd.func45, Tryd.ntmps45
    go_wp2
    refine wp_region_over_lit (by kernel_rfl) (by kernel_rfl) ?_
    repeat (go_big_quiet_step ((go_at_call 59; exact Calls.over_of (rdays_any _ _ _))))
    refine wpQuiet_nil ?_
    intro _ hw1
    obtain ⟨x1, hw2⟩ := hw1
    subst hw2
    go_wp2
    go_ret
    refine ⟨ret_bool (by have := HZ.out; simp [rightB]; omega), ?_⟩
    exact ((Below.refl _ _).alloc (Nat.le_refl _) _).over' (by simp) _
  have q5 : decide (daysI y mo < d) = false := by simpa using c5
  go_enter Tryd.func45, Tryd.ntmps45
  go_wp2
  refine wp_region_over_lit (by kernel_rfl) (by kernel_rfl) ?_
  repeat (go_big_quiet_step ((go_at_call 59; exact Calls.over_of (rdays_any _ _ _))))
  refine wpQuiet_nil ?_
  intro _ hw1
  obtain ⟨x1, hw2⟩ := hw1
  subst hw2
  go_wp2
  all_goals
    go_ret
    refine ⟨ret_bool (by simp_all [rightB]; try (first | omega | (rw [Bool.eq_iff_iff]; simp; omega))), ?_⟩
    exact ((Below.refl _ _).alloc (Nat.le_refl _) _).over' (by simp) _
end Go.Proofs.YtdmglpnieiiigaaDoor
