import Derived.Test.YtfjbjfebopabaaaW4
namespace Go.Proofs.Ytfjbjfebopabaaa
open Go.RowKit

theorem days_zero (y m : Int) (h : m < 1 ∨ 12 < m) : daysI y m = 0 := by
  unfold daysI
  rw [if_neg (by omega), if_neg (by omega), if_neg (by omega)]
theorem days_le (y m : Int) : 0 ≤ daysI y m ∧ daysI y m ≤ 31 := by
  unfold daysI
  repeat' split
  all_goals omega
set_option maxHeartbeats 2000000 in
theorem rright_any (y mo d h mi s : Int) (w : World) :
    Calls Try.prog 7 #[tm y mo d h mi s] w fun e w' => e = .returned (.bool (rightB y mo d h mi s)) ∧ Below w.heap.size w w' := by
  have hz := days_zero y mo
  have HZ := Lib.hid hz
  clear hz
  by_cases c0 : y < 1980
  · have q0 : decide (y < 1980) = true := by simpa using c0
    go_enter Try.func7, Try.ntmps7
    go_wp2
    refine wp_region_over_lit (by kernel_rfl) (by kernel_rfl) ?_
    repeat (go_big_quiet_step ((go_at_call 18; exact Calls.over_of (rdays_any _ _ _))))
    refine wpQuiet_nil ?_
    intro _ hw1
    obtain ⟨x1, hw2⟩ := hw1
    subst hw2
    go_wp2
    go_ret
    refine ⟨ret_bool (by have := HZ.out; simp [rightB]; omega), ?_⟩
    exact ((Below.refl _ _).alloc (Nat.le_refl _) _).over' (by simp) _
  have q0 : decide (y < 1980) = false := by simpa using c0
  by_cases c1 : 2107 < y
  · have q1 : decide (2107 < y) = true := by simpa using c1
    go_enter Try.func7, Try.ntmps7
    go_wp2
    refine wp_region_over_lit (by kernel_rfl) (by kernel_rfl) ?_
    repeat (go_big_quiet_step ((go_at_call 18; exact Calls.over_of (rdays_any _ _ _))))
    refine wpQuiet_nil ?_
    intro _ hw1
    obtain ⟨x1, hw2⟩ := hw1
    subst hw2
    go_wp2
    go_ret
    refine ⟨ret_bool (by have := HZ.out; simp [rightB]; omega), ?_⟩
    exact ((Below.refl _ _).alloc (Nat.le_refl _) _).over' (by simp) _
  have q1 : decide (2107 < y) = false := by simpa using c1
  by_cases c2 : mo < 1
  · have q2 : decide (mo < 1) = true := by simpa using c2
    go_enter Try.func7, Try.ntmps7
    go_wp2
    refine wp_region_over_lit (by kernel_rfl) (by kernel_rfl) ?_
    repeat (go_big_quiet_step ((go_at_call 18; exact Calls.over_of (rdays_any _ _ _))))
    refine wpQuiet_nil ?_
    intro _ hw1
    obtain ⟨x1, hw2⟩ := hw1
    subst hw2
    go_wp2
    go_ret
    refine ⟨ret_bool (by have := HZ.out; simp [rightB]; omega), ?_⟩
    exact ((Below.refl _ _).alloc (Nat.le_refl _) _).over' (by simp) _
  have q2 : decide (mo < 1) = false := by simpa using c2
  by_cases c3 : 12 < mo
  · have q3 : decide (12 < mo) = true := by simpa using c3
    go_enter Try.func7, Try.ntmps7
    go_wp2
    refine wp_region_over_lit (by kernel_rfl) (by kernel_rfl) ?_
    repeat (go_big_quiet_step ((go_at_call 18; exact Calls.over_of (rdays_any _ _ _))))
    refine wpQuiet_nil ?_
    intro _ hw1
    obtain ⟨x1, hw2⟩ := hw1
    subst hw2
    go_wp2
    go_ret
    refine ⟨ret_bool (by have := HZ.out; simp [rightB]; omega), ?_⟩
    exact ((Below.refl _ _).alloc (Nat.le_refl _) _).over' (by simp) _
  have q3 : decide (12 < mo) = false := by simpa using c3
  by_cases c4 : d < 1
  · have q4 : decide (d < 1) = true := by simpa using c4
    go_enter Try.func7, Try.ntmps7
    go_wp2
    refine wp_region_over_lit (by kernel_rfl) (by kernel_rfl) ?_
    repeat (go_big_quiet_step ((go_at_call 18; exact Calls.over_of (rdays_any _ _ _))))
    refine wpQuiet_nil ?_
    intro _ hw1
    obtain ⟨x1, hw2⟩ := hw1
    subst hw2
    go_wp2
    go_ret
    refine ⟨ret_bool (by have := HZ.out; simp [rightB]; omega), ?_⟩
    exact ((Below.refl _ _).alloc (Nat.le_refl _) _).over' (by simp) _
  have q4 : decide (d < 1) = false := by simpa using c4
  by_cases c5 : daysI y mo < d
  · have q5 : decide (daysI y mo < d) = true := by simpa using c5
    go_enter Try.func7, Try.ntmps7
    go_wp2
    refine wp_region_over_lit (by kernel_rfl) (by kernel_rfl) ?_
    repeat (go_big_quiet_step ((go_at_call 18; exact Calls.over_of (rdays_any _ _ _))))
    refine wpQuiet_nil ?_
    intro _ hw1
    obtain ⟨x1, hw2⟩ := hw1
    subst hw2
    go_wp2
    go_ret
    refine ⟨ret_bool (by have := HZ.out; simp [rightB]; omega), ?_⟩
    exact ((Below.refl _ _).alloc (Nat.le_refl _) _).over' (by simp) _
  have q5 : decide (daysI y mo < d) = false := by simpa using c5
  go_enter Try.func7, Try.ntmps7
  go_wp2
  refine wp_region_over_lit (by kernel_rfl) (by kernel_rfl) ?_
  repeat (go_big_quiet_step ((go_at_call 18; exact Calls.over_of (rdays_any _ _ _))))
  refine wpQuiet_nil ?_
  intro _ hw1
  obtain ⟨x1, hw2⟩ := hw1
  subst hw2
  go_wp2
  all_goals
    go_ret
    refine ⟨ret_bool (by simp_all [rightB]; try (first | omega | (rw [Bool.eq_iff_iff]; simp; omega))), ?_⟩
    exact ((Below.refl _ _).alloc (Nat.le_refl _) _).over' (by simp) _
end Go.Proofs.Ytfjbjfebopabaaa
