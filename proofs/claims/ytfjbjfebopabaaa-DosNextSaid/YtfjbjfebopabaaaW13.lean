/- DosNext, for every time. -/
import Derived.Test.YtfjbjfebopabaaaW12
namespace Go.Proofs.Ytfjbjfebopabaaa
open Go.RowKit

theorem next_yes {y mo d h mi s Y M D H I S : Int} (w : World) (hb : rightB y mo d h mi s = true) (st : Step y mo d h mi s Y M D H I S) (hq : rightB Y M D H I S = true) :
    Calls Try.prog 13 #[tm y mo d h mi s] w fun e w' => e = .returned (.tuple #[tm Y M D H I S, .int .i64 0]) ∧ Below w.heap.size w w' := by
  cases st with
  | sec h1 => exact next_sec _ _ _ _ _ _ w hb hq h1
  | minute h1 h2 => subst h1; exact next_minute _ _ _ _ _ w hb hq h2
  | hour h1 h2 h3 => subst h1 h2; exact next_hour _ _ _ _ w hb hq h3
  | day h1 h2 h3 h4 => subst h1 h2 h3; exact next_day _ _ _ w hb hq h4
  | month h1 h2 h3 h4 h5 => subst h1 h2 h3; exact next_month _ _ _ w hb hq h4 h5
  | year h1 h2 h3 h4 h5 => subst h1 h2 h3 h5; exact next_year _ _ w hb hq h4
theorem next_no {y mo d h mi s Y M D H I S : Int} (w : World) (hb : rightB y mo d h mi s = true) (st : Step y mo d h mi s Y M D H I S) (hq : rightB Y M D H I S = false) :
    Calls Try.prog 13 #[tm y mo d h mi s] w fun e w' => e = .returned (.tuple #[tm 0 0 0 0 0 0, .int .i64 34]) ∧ Below w.heap.size w w' := by
  rcases step_right hb st with h | ⟨rfl, rfl, rfl, rfl, rfl, rfl, _⟩
  · rw [hq] at h; cases h
  cases st with
  | sec h1 => omega
  | minute h1 h2 => omega
  | hour h1 h2 h3 => omega
  | day h1 h2 h3 h4 => rw [show daysI 2107 12 = 31 from by decide] at h4; omega
  | month h1 h2 h3 h4 h5 => omega
  | year h1 h2 h3 h4 h5 => exact next_end _ _ w hb hq h4
theorem step_some {y mo d h mi s : Int} (hr : rightB y mo d h mi s = true) : ∃ Y M D H I S, Step y mo d h mi s Y M D H I S := by
  have hd := right_days hr
  obtain ⟨a1, a2, a3, a4, a5, a6, a7, a8, a9, a10, a11, a12, a13⟩ := RightT.of hr
  by_cases h1 : s < 58
  · exact ⟨_, _, _, _, _, _, .sec h1⟩
  by_cases h2 : mi < 59
  · exact ⟨_, _, _, _, _, _, .minute (by omega) h2⟩
  by_cases h3 : h < 23
  · exact ⟨_, _, _, _, _, _, .hour (by omega) (by omega) h3⟩
  by_cases h4 : d < daysI y mo
  · exact ⟨_, _, _, _, _, _, .day (by omega) (by omega) (by omega) h4⟩
  by_cases h5 : mo < 12
  · exact ⟨_, _, _, _, _, _, .month (by omega) (by omega) (by omega) (by omega) h5⟩
  · exact ⟨_, _, _, _, _, _, .year (by omega) (by omega) (by omega) (by omega) (by omega)⟩
theorem tmD_of {y mo d h mi s : Int} (hr : rightB y mo d h mi s = true) : tmD (dateI y mo d) (clockI h mi s) = tm y mo d h mi s := by
  obtain ⟨e1, e2, e3⟩ := back_date (RightT.of hr)
  obtain ⟨e4, e5, e6⟩ := back_clock (RightT.of hr)
  unfold tmD
  rw [e1, e2, e3, e4, e5, e6]
theorem rnext_yes {y mo d h mi s Y M D H I S : Int} (w : World) (hb : rightB y mo d h mi s = true) (st : Step y mo d h mi s Y M D H I S) (hq : rightB Y M D H I S = true) :
    Calls Try.prog 14 #[tm y mo d h mi s] w fun e w' => e = .returned (.tuple #[tm Y M D H I S, .bool true]) ∧ Below w.heap.size w w' := by
  refine (rnext_any y mo d h mi s _ _ true w hb ((goal_of hb st).1 hq)).mono ?_
  rintro e w' ⟨rfl, hb'⟩
  exact ⟨by rw [← tmD_of hq]; rfl, hb'⟩
theorem rnext_no {y mo d h mi s Y M D H I S : Int} (w : World) (hb : rightB y mo d h mi s = true) (st : Step y mo d h mi s Y M D H I S) (hq : rightB Y M D H I S = false) :
    Calls Try.prog 14 #[tm y mo d h mi s] w fun e w' => e = .returned (.tuple #[tm 0 0 0 0 0 0, .bool false]) ∧ Below w.heap.size w w' :=
  rnext_any y mo d h mi s _ _ false w hb ((goal_of hb st).2 hq)
theorem orL_range (l : List Int) (h : ∀ x ∈ l, -1 ≤ x ∧ x ≤ 1) : -1 ≤ orL l ∧ orL l ≤ 1 := by
  induction l with
  | nil => decide
  | cons x l ih =>
    unfold orL
    split
    · exact h x (by simp)
    · exact ih fun y hy => h y (by simp [hy])
theorem cmpI_range (a b : Int) : -1 ≤ cmpI a b ∧ cmpI a b ≤ 1 := by unfold cmpI; split <;> (try split) <;> omega
theorem cmpT_range (a0 a1 a2 a3 a4 a5 b0 b1 b2 b3 b4 b5 : Int) : -1 ≤ cmpT [a0, a1, a2, a3, a4, a5] [b0, b1, b2, b3, b4, b5] ∧ cmpT [a0, a1, a2, a3, a4, a5] [b0, b1, b2, b3, b4, b5] ≤ 1 := by
  unfold cmpT
  refine orL_range _ fun x hx => ?_
  simp only [List.zipWith_cons_cons, List.zipWith_nil_left, List.mem_cons, List.not_mem_nil, or_false] at hx
  rcases hx with rfl | rfl | rfl | rfl | rfl | rfl <;> exact cmpI_range _ _
theorem step_cmp {y mo d h mi s Y M D H I S : Int} (hb : rightB y mo d h mi s = true) (st : Step y mo d h mi s Y M D H I S) (hq : rightB Y M D H I S = true) :
    cmpT [y, mo, d, h, mi, s] [Y, M, D, H, I, S] = -1 ∧ cmpT [Y, M, D, H, I, S] [y, mo, d, h, mi, s] = 1 := by
  have hl := step_lt hb st
  have o1 := order (RightT.of hb) (RightT.of hq)
  have o2 := order (RightT.of hq) (RightT.of hb)
  have r1 := cmpT_range y mo d h mi s Y M D H I S
  have r2 := cmpT_range Y M D H I S y mo d h mi s
  omega
theorem compare_lt {y mo d h mi s Y M D H I S : Int} (w : World) (hb : rightB y mo d h mi s = true) (st : Step y mo d h mi s Y M D H I S) (hq : rightB Y M D H I S = true) :
    Calls Try.prog 15 #[tm y mo d h mi s, tm Y M D H I S] w fun e w' => e = .returned (.int .i64 (-1)) ∧ Below w.heap.size w w' := by
  have := compare_any y mo d h mi s Y M D H I S w
  rw [(step_cmp hb st hq).1] at this
  exact this
theorem compare_gt {y mo d h mi s Y M D H I S : Int} (w : World) (hb : rightB y mo d h mi s = true) (st : Step y mo d h mi s Y M D H I S) (hq : rightB Y M D H I S = true) :
    Calls Try.prog 15 #[tm Y M D H I S, tm y mo d h mi s] w fun e w' => e = .returned (.int .i64 1) ∧ Below w.heap.size w w' := by
  have := compare_any Y M D H I S y mo d h mi s w
  rw [(step_cmp hb st hq).2] at this
  exact this
set_option maxHeartbeats 1000000 in
theorem law_wrong (y mo d h mi s : Int) (w : World) (hb : rightB y mo d h mi s = false) :
    Calls Try.prog 4 #[tm y mo d h mi s] w fun e w' => e = .returned (.bool true) ∧ Below w.heap.size w w' := by
  have HB := Lib.hid hb
  clear hb
  go_enter Try.func4, Try.ntmps4
  go_wp2_with fail
  refine (awake_any _).mono ?_
  rintro e w1 ⟨rfl, hb1⟩
  have T1 := Lib.hid ((Whole.new w 23 #[.int .i64 y, .int .i64 mo, .int .i64 d, .int .i64 h, .int .i64 mi, .int .i64 s] rfl).below' hb1)
  have B1 := Lib.hid (((Below.refl _ _).alloc (Nat.le_refl _) _).trans (hb1.mono (by simp)))
  clear hb1
  have c1 := T1.out.cell
  go_wp2_with fail
  clear c1
  refine (next_wrong _ _ _ _ _ _ _ HB.out).mono ?_
  rintro e w2 ⟨rfl, hb2⟩
  have T2 := Lib.hid (T1.out.below' hb2)
  have B2 := Lib.hid (B1.out.trans (hb2.mono B1.out.size))
  clear hb2 T1 B1
  have c2 := T2.out.cell
  have l2 := T2.out.lt
  go_wp2_with fail
  clear c2
  refine (rright_b _ HB.out).mono ?_
  rintro e w3 ⟨rfl, hb3⟩
  have X3 := Lib.hid ((Whole.new w2 23 #[.int .i64 0, .int .i64 0, .int .i64 0, .int .i64 0, .int .i64 0, .int .i64 0] rfl).below' hb3)
  have T3 := Lib.hid ((T2.out.alloc _).below' hb3)
  have B3 := Lib.hid ((B2.out.alloc B2.out.size _).trans (hb3.mono (by have := B2.out.size; simp; omega)))
  clear hb3 T2 B2
  have c3 := T3.out.cell
  have x3 := X3.out.cell
  have l3 := T3.out.lt
  have m3 := X3.out.lt
  clear l2
  go_wp2
  go_ret
  exact ⟨rfl, B3.out⟩
set_option maxHeartbeats 2000000 in
theorem law_no (y mo d h mi s Y M D H I S : Int) (w : World) (HB : Hid (rightB y mo d h mi s = true)) (ST : Hid (Step y mo d h mi s Y M D H I S)) (HQ : Hid (rightB Y M D H I S = false)) :
    Calls Try.prog 4 #[tm y mo d h mi s] w fun e w' => e = .returned (.bool true) ∧ Below w.heap.size w w' := by
  go_enter Try.func4, Try.ntmps4
  go_wp2_with fail
  refine (awake_any _).mono ?_
  rintro e w1 ⟨rfl, hb1⟩
  have T1 := Lib.hid ((Whole.new w 23 #[.int .i64 y, .int .i64 mo, .int .i64 d, .int .i64 h, .int .i64 mi, .int .i64 s] rfl).below' hb1)
  have B1 := Lib.hid (((Below.refl _ _).alloc (Nat.le_refl _) _).trans (hb1.mono (by simp)))
  clear hb1
  have c1 := T1.out.cell
  go_wp2_with fail
  clear c1
  refine (next_no _ HB.out ST.out HQ.out).mono ?_
  rintro e w2 ⟨rfl, hb2⟩
  have T2 := Lib.hid (T1.out.below' hb2)
  have B2 := Lib.hid (B1.out.trans (hb2.mono B1.out.size))
  clear hb2 T1 B1
  have c2 := T2.out.cell
  have l2 := T2.out.lt
  go_wp2_with fail
  clear c2
  refine (rright_b _ HB.out).mono ?_
  rintro e w3 ⟨rfl, hb3⟩
  have X3 := Lib.hid ((Whole.new w2 23 #[.int .i64 0, .int .i64 0, .int .i64 0, .int .i64 0, .int .i64 0, .int .i64 0] rfl).below' hb3)
  have T3 := Lib.hid ((T2.out.alloc _).below' hb3)
  have B3 := Lib.hid ((B2.out.alloc B2.out.size _).trans (hb3.mono (by have := B2.out.size; simp; omega)))
  clear hb3 T2 B2
  have c3 := T3.out.cell
  have x3 := X3.out.cell
  have l3 := T3.out.lt
  have m3 := X3.out.lt
  clear l2
  go_wp2_with fail
  clear c3 x3
  refine (rnext_no _ HB.out ST.out HQ.out).mono ?_
  rintro e w4 ⟨rfl, hb4⟩
  have X4 := Lib.hid (X3.out.below' hb4)
  have T4 := Lib.hid (T3.out.below' hb4)
  have B4 := Lib.hid (B3.out.trans (hb4.mono B3.out.size))
  clear hb4 T3 B3 X3
  have c4 := T4.out.cell
  have x4 := X4.out.cell
  have l4 := T4.out.lt
  have m4 := X4.out.lt
  clear l3 m3
  go_wp2
  go_ret
  exact ⟨rfl, B4.out.alloc B4.out.size _⟩
set_option maxHeartbeats 2000000 in
theorem law_yes (y mo d h mi s Y M D H I S : Int) (w : World) (HB : Hid (rightB y mo d h mi s = true)) (ST : Hid (Step y mo d h mi s Y M D H I S)) (HQ : Hid (rightB Y M D H I S = true)) :
    Calls Try.prog 4 #[tm y mo d h mi s] w fun e w' => e = .returned (.bool true) ∧ Below w.heap.size w w' := by
  go_enter Try.func4, Try.ntmps4
  go_wp2_with fail
  refine (awake_any _).mono ?_
  rintro e w1 ⟨rfl, hb1⟩
  have T1 := Lib.hid ((Whole.new w 23 #[.int .i64 y, .int .i64 mo, .int .i64 d, .int .i64 h, .int .i64 mi, .int .i64 s] rfl).below' hb1)
  have B1 := Lib.hid (((Below.refl _ _).alloc (Nat.le_refl _) _).trans (hb1.mono (by simp)))
  clear hb1
  have c1 := T1.out.cell
  go_wp2_with fail
  clear c1
  refine (next_yes _ HB.out ST.out HQ.out).mono ?_
  rintro e w2 ⟨rfl, hb2⟩
  have T2 := Lib.hid (T1.out.below' hb2)
  have B2 := Lib.hid (B1.out.trans (hb2.mono B1.out.size))
  clear hb2 T1 B1
  have c2 := T2.out.cell
  have l2 := T2.out.lt
  go_wp2_with fail
  clear c2
  refine (rright_b _ HB.out).mono ?_
  rintro e w3 ⟨rfl, hb3⟩
  have X3 := Lib.hid ((Whole.new w2 23 #[.int .i64 Y, .int .i64 M, .int .i64 D, .int .i64 H, .int .i64 I, .int .i64 S] rfl).below' hb3)
  have T3 := Lib.hid ((T2.out.alloc _).below' hb3)
  have B3 := Lib.hid ((B2.out.alloc B2.out.size _).trans (hb3.mono (by have := B2.out.size; simp; omega)))
  clear hb3 T2 B2
  have c3 := T3.out.cell
  have x3 := X3.out.cell
  have l3 := T3.out.lt
  have m3 := X3.out.lt
  clear l2
  go_wp2_with fail
  clear c3 x3
  refine (rnext_yes _ HB.out ST.out HQ.out).mono ?_
  rintro e w4 ⟨rfl, hb4⟩
  have X4 := Lib.hid (X3.out.below' hb4)
  have T4 := Lib.hid (T3.out.below' hb4)
  have B4 := Lib.hid (B3.out.trans (hb4.mono B3.out.size))
  clear hb4 T3 B3 X3
  have c4 := T4.out.cell
  have x4 := X4.out.cell
  have l4 := T4.out.lt
  have m4 := X4.out.lt
  clear l3 m3
  have w4l := Lib.hid (Whole.new w4 23 #[.int .i64 Y, .int .i64 M, .int .i64 D, .int .i64 H, .int .i64 I, .int .i64 S] rfl)
  go_wp2_with fail
  clear c4 x4
  refine (compare_lt _ HB.out ST.out HQ.out).mono ?_
  rintro e w5 ⟨rfl, hb5⟩
  have T5 := Lib.hid ((T4.out.alloc _).below' hb5)
  have X5 := Lib.hid ((X4.out.alloc _).below' hb5)
  have B5 := Lib.hid ((B4.out.alloc B4.out.size _).trans (hb5.mono (by have := B4.out.size; simp; omega)))
  clear hb5 w4l T4 X4 B4
  have c5 := T5.out.cell
  have x5 := X5.out.cell
  go_wp2_with fail
  refine (compare_gt _ HB.out ST.out HQ.out).mono ?_
  rintro e w6 ⟨rfl, hb6⟩
  have B6 := Lib.hid (B5.out.trans (hb6.mono B5.out.size))
  clear hb6 c5 x5
  go_wp2
  go_ret
  exact ⟨rfl, B6.out⟩
theorem next_law (y mo d h mi s : Int) (w : World) : Calls Try.prog 4 #[tm y mo d h mi s] w fun e w' => e = .returned (.bool true) ∧ Below w.heap.size w w' := by
  cases hb : rightB y mo d h mi s with
  | false => exact law_wrong _ _ _ _ _ _ w hb
  | true =>
    obtain ⟨Y, M, D, H, I, S, st⟩ := step_some hb
    cases hq : rightB Y M D H I S with
    | false => exact law_no _ _ _ _ _ _ _ _ _ _ _ _ w (Lib.hid hb) (Lib.hid st) (Lib.hid hq)
    | true => exact law_yes _ _ _ _ _ _ _ _ _ _ _ _ w (Lib.hid hb) (Lib.hid st) (Lib.hid hq)
end Go.Proofs.Ytfjbjfebopabaaa
