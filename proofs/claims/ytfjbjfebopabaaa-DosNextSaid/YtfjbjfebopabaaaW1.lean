import Derived.Test.YtfjbjfebopabaaaRows
import Derived.WalkKit
import Derived.WalkSpells
import Derived.WalkLawsBesides
import Derived.Deep.QuietTactic
import Derived.BigQuiet
import Derived.StillTailTactics
import Derived.Test.YtfjbjfebopabaaaOver
namespace Go.Proofs.Ytfjbjfebopabaaa
open Go.RowKit

theorem ret_int {k : IntKind} {a b : Int} (h : a = b) : Ending.returned (.int k a) = .returned (.int k b) := by rw [h]
theorem ret_bool {a b : Bool} (h : a = b) : Ending.returned (.bool a) = .returned (.bool b) := by rw [h]
def leap (y : Int) : Bool := (decide (y.tmod 4 = 0) && !decide (y.tmod 100 = 0)) || decide (y.tmod 400 = 0)
def daysI (y m : Int) : Int := if m = 2 then (if leap y then 29 else 28) else if m = 4 ∨ m = 6 ∨ m = 9 ∨ m = 11 then 30 else if m = 1 ∨ m = 3 ∨ m = 5 ∨ m = 7 ∨ m = 8 ∨ m = 10 ∨ m = 12 then 31 else 0

set_option maxHeartbeats 400000 in
theorem days_any (y m : Int) (w : World) :
    Calls Try.prog 17 #[.int .i64 y, .int .i64 m] w fun e w' => e = .returned (.int .i64 (daysI y m)) ∧ w = w' := by
  go_enter Try.func17, Try.ntmps17
  go_wp2
  all_goals
    go_ret
    refine ⟨ret_int ?_, rfl⟩
    simp_all [daysI, leap]

set_option maxHeartbeats 400000 in
theorem nan_any (a : Int) (w : World) :
    Calls Try.prog 23 #[.int .i64 a] w fun e w' => e = .returned (.bool false) ∧ w = w' := by
  go_enter Try.func23, Try.ntmps23
  go_wp2
  go_ret
  exact ⟨ret_bool (by simp), rfl⟩

def cmpI (a b : Int) : Int := if a < b then -1 else if b < a then 1 else 0
set_option maxHeartbeats 400000 in
theorem cmp_any (a b : Int) (w : World) :
    Calls Try.prog 21 #[.int .i64 a, .int .i64 b] w fun e w' => e = .returned (.int .i64 (cmpI a b)) ∧ w = w' := by
  go_enter Try.func21, Try.ntmps21
  go_wp2_with (go_at_call 23; refine (nan_any _ _).mono ?_; rintro e w' ⟨rfl, rfl⟩)
  all_goals
    go_ret
    refine ⟨ret_int ?_, rfl⟩
    simp_all [cmpI]
    try omega
def rightB (y mo d h mi s : Int) : Bool := decide (1980 ≤ y) && decide (y ≤ 2107) && decide (1 ≤ d) && decide (d ≤ daysI y mo) && decide (0 ≤ h) && decide (h ≤ 23) && decide (0 ≤ mi) && decide (mi ≤ 59) && decide (0 ≤ s) && decide (s ≤ 58) && decide (s % 2 = 0)

set_option maxHeartbeats 2000000 in
theorem right_any (y mo d h mi s : Int) (w : World) :
    Calls Try.prog 11 #[.agg #[.int .i64 y, .int .i64 mo, .int .i64 d, .int .i64 h, .int .i64 mi, .int .i64 s]] w fun e w' => e = .returned (.bool (rightB y mo d h mi s)) ∧ Below w.heap.size w w' := by
  by_cases c0 : 1980 ≤ y
  · by_cases c1 : y ≤ 2107
    · by_cases c2 : 1 ≤ d
      · by_cases c3 : d ≤ daysI y mo
        · by_cases c4 : 0 ≤ h
          · by_cases c5 : h ≤ 23
            · by_cases c6 : 0 ≤ mi
              · by_cases c7 : mi ≤ 59
                · by_cases c8 : 0 ≤ s
                  · by_cases c9 : s ≤ 58
                    · by_cases c10 : s % 2 = 0
                      · have q10 : (s % 2 == 0) = true := by simpa using c10
                        go_enter Try.func11, Try.ntmps11
                        go_wp2
                        go_quiet ((go_at_call 17; exact Calls.quiet_eq (days_any _ _ _)))
                        go_wp2
                        go_ret
                        refine ⟨ret_bool (by simp [rightB]; omega), ?_⟩
                        exact ((Below.refl _ _).alloc (Nat.le_refl _) _).drewN' _
                      · have q10 : (s % 2 == 0) = false := by simpa using c10
                        go_enter Try.func11, Try.ntmps11
                        go_wp2
                        go_quiet ((go_at_call 17; exact Calls.quiet_eq (days_any _ _ _)))
                        go_wp2
                        go_ret
                        refine ⟨ret_bool (by simp [rightB]; omega), ?_⟩
                        exact ((Below.refl _ _).alloc (Nat.le_refl _) _).drewN' _
                    · have q9 : decide (s ≤ 58) = false := by simpa using c9
                      go_enter Try.func11, Try.ntmps11
                      go_wp2
                      go_quiet ((go_at_call 17; exact Calls.quiet_eq (days_any _ _ _)))
                      go_wp2
                      go_ret
                      refine ⟨ret_bool (by simp [rightB]; omega), ?_⟩
                      exact ((Below.refl _ _).alloc (Nat.le_refl _) _).drewN' _
                  · have q8 : decide (0 ≤ s) = false := by simpa using c8
                    go_enter Try.func11, Try.ntmps11
                    go_wp2
                    go_quiet ((go_at_call 17; exact Calls.quiet_eq (days_any _ _ _)))
                    go_wp2
                    go_ret
                    refine ⟨ret_bool (by simp [rightB]; omega), ?_⟩
                    exact ((Below.refl _ _).alloc (Nat.le_refl _) _).drewN' _
                · have q7 : decide (mi ≤ 59) = false := by simpa using c7
                  go_enter Try.func11, Try.ntmps11
                  go_wp2
                  go_quiet ((go_at_call 17; exact Calls.quiet_eq (days_any _ _ _)))
                  go_wp2
                  go_ret
                  refine ⟨ret_bool (by simp [rightB]; omega), ?_⟩
                  exact ((Below.refl _ _).alloc (Nat.le_refl _) _).drewN' _
              · have q6 : decide (0 ≤ mi) = false := by simpa using c6
                go_enter Try.func11, Try.ntmps11
                go_wp2
                go_quiet ((go_at_call 17; exact Calls.quiet_eq (days_any _ _ _)))
                go_wp2
                go_ret
                refine ⟨ret_bool (by simp [rightB]; omega), ?_⟩
                exact ((Below.refl _ _).alloc (Nat.le_refl _) _).drewN' _
            · have q5 : decide (h ≤ 23) = false := by simpa using c5
              go_enter Try.func11, Try.ntmps11
              go_wp2
              go_quiet ((go_at_call 17; exact Calls.quiet_eq (days_any _ _ _)))
              go_wp2
              go_ret
              refine ⟨ret_bool (by simp [rightB]; omega), ?_⟩
              exact ((Below.refl _ _).alloc (Nat.le_refl _) _).drewN' _
          · have q4 : decide (0 ≤ h) = false := by simpa using c4
            go_enter Try.func11, Try.ntmps11
            go_wp2
            go_quiet ((go_at_call 17; exact Calls.quiet_eq (days_any _ _ _)))
            go_wp2
            go_ret
            refine ⟨ret_bool (by simp [rightB]; omega), ?_⟩
            exact ((Below.refl _ _).alloc (Nat.le_refl _) _).drewN' _
        · have q3 : decide (d ≤ daysI y mo) = false := by simpa using c3
          go_enter Try.func11, Try.ntmps11
          go_wp2
          go_quiet ((go_at_call 17; exact Calls.quiet_eq (days_any _ _ _)))
          go_wp2
          go_ret
          refine ⟨ret_bool (by simp [rightB]; omega), ?_⟩
          exact ((Below.refl _ _).alloc (Nat.le_refl _) _).drewN' _
      · have q2 : decide (1 ≤ d) = false := by simpa using c2
        go_enter Try.func11, Try.ntmps11
        go_wp2
        go_quiet ((go_at_call 17; exact Calls.quiet_eq (days_any _ _ _)))
        go_wp2
        go_ret
        refine ⟨ret_bool (by simp [rightB]; omega), ?_⟩
        exact ((Below.refl _ _).alloc (Nat.le_refl _) _).drewN' _
    · have q1 : decide (y ≤ 2107) = false := by simpa using c1
      go_enter Try.func11, Try.ntmps11
      go_wp2
      go_quiet ((go_at_call 17; exact Calls.quiet_eq (days_any _ _ _)))
      go_wp2
      go_ret
      refine ⟨ret_bool (by simp [rightB]; omega), ?_⟩
      exact ((Below.refl _ _).alloc (Nat.le_refl _) _).drewN' _
  · have q0 : decide (1980 ≤ y) = false := by simpa using c0
    go_enter Try.func11, Try.ntmps11
    go_wp2
    go_quiet ((go_at_call 17; exact Calls.quiet_eq (days_any _ _ _)))
    go_wp2
    go_ret
    refine ⟨ret_bool (by simp [rightB]; omega), ?_⟩
    exact ((Below.refl _ _).alloc (Nat.le_refl _) _).drewN' _

end Go.Proofs.Ytfjbjfebopabaaa
