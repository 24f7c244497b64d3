/- What time follows: the arithmetic. -/
import Derived.Test.YtfjbjfebopabaaaW9
namespace Go.Proofs.Ytfjbjfebopabaaa
open Go.RowKit

/-- The time behind a time: which part turns. -/
inductive Step (y mo d h mi s : Int) : Int → Int → Int → Int → Int → Int → Prop
  | sec : s < 58 → Step y mo d h mi s y mo d h mi (s + 2)
  | minute : s = 58 → mi < 59 → Step y mo d h mi s y mo d h (mi + 1) 0
  | hour : s = 58 → mi = 59 → h < 23 → Step y mo d h mi s y mo d (h + 1) 0 0
  | day : s = 58 → mi = 59 → h = 23 → d < daysI y mo → Step y mo d h mi s y mo (d + 1) 0 0 0
  | month : s = 58 → mi = 59 → h = 23 → d = daysI y mo → mo < 12 → Step y mo d h mi s y (mo + 1) 1 0 0 0
  | year : s = 58 → mi = 59 → h = 23 → d = daysI y mo → mo = 12 → Step y mo d h mi s (y + 1) 1 1 0 0 0
theorem right_of {y mo d h mi s : Int} (a : 1980 ≤ y) (b : y ≤ 2107) (c : 1 ≤ d) (e : d ≤ daysI y mo) (f : 0 ≤ h) (g : h ≤ 23) (i : 0 ≤ mi) (j : mi ≤ 59) (k : 0 ≤ s) (l : s ≤ 58) (m : s % 2 = 0) : rightB y mo d h mi s = true := by
  simp only [rightB, Bool.and_eq_true, decide_eq_true_eq]
  exact ⟨⟨⟨⟨⟨⟨⟨⟨⟨⟨a, b⟩, c⟩, e⟩, f⟩, g⟩, i⟩, j⟩, k⟩, l⟩, m⟩
theorem right_days {y mo d h mi s : Int} (hr : rightB y mo d h mi s = true) : d ≤ daysI y mo := by
  simp only [rightB, Bool.and_eq_true, decide_eq_true_eq] at hr
  obtain ⟨⟨⟨⟨⟨⟨⟨⟨⟨⟨a, b⟩, c⟩, e⟩, f⟩, g⟩, i⟩, j⟩, k⟩, l⟩, m⟩ := hr
  exact e
theorem days_pos {y mo : Int} (h1 : 1 ≤ mo) (h2 : mo ≤ 12) : 28 ≤ daysI y mo := by
  unfold daysI
  split
  · split <;> omega
  · split
    · omega
    · rw [if_pos (by omega)]
      omega
theorem step_right {y mo d h mi s Y M D H I S : Int} (hr : rightB y mo d h mi s = true) (st : Step y mo d h mi s Y M D H I S) : rightB Y M D H I S = true ∨ (y = 2107 ∧ mo = 12 ∧ d = 31 ∧ h = 23 ∧ mi = 59 ∧ s = 58 ∧ rightB Y M D H I S = false) := by
  have hd := right_days hr
  have hr := RightT.of hr
  obtain ⟨a1, a2, a3, a4, a5, a6, a7, a8, a9, a10, a11, a12, a13⟩ := hr
  cases st with
  | sec h1 => exact .inl (right_of a1 a2 a5 hd a7 a8 a9 a10 (by omega) (by omega) (by omega))
  | minute h1 h2 => exact .inl (right_of a1 a2 a5 hd a7 a8 (by omega) (by omega) (by omega) (by omega) (by omega))
  | hour h1 h2 h3 => exact .inl (right_of a1 a2 a5 hd (by omega) (by omega) (by omega) (by omega) (by omega) (by omega) (by omega))
  | day h1 h2 h3 h4 => exact .inl (right_of a1 a2 (by omega) (by omega) (by omega) (by omega) (by omega) (by omega) (by omega) (by omega) (by omega))
  | month h1 h2 h3 h4 h5 => exact .inl (right_of a1 a2 (by omega) (by have := days_pos (y := y) (mo := mo + 1) (by omega) (by omega); omega) (by omega) (by omega) (by omega) (by omega) (by omega) (by omega) (by omega))
  | year h1 h2 h3 h4 h5 =>
    by_cases hy : y < 2107
    · exact .inl (right_of (by omega) (by omega) (by omega) (by have := days_pos (y := y + 1) (mo := 1) (by omega) (by omega); omega) (by omega) (by omega) (by omega) (by omega) (by omega) (by omega) (by omega))
    · have hy' : y = 2107 := by omega
      subst h5 hy'
      refine .inr ⟨rfl, rfl, h4, h3, h2, h1, by decide⟩
theorem right_D {a b : Int} (h : rightD a b = true) : RightT (1980 + a / 512) (a / 32 % 16) (a % 32) (b / 2048) (b / 32 % 64) (b % 32 * 2) ∧ a % 32 ≤ daysI (1980 + a / 512) (a / 32 % 16) := ⟨RightT.of h, right_days h⟩
theorem rightD_zero {a b : Int} (h : rightD a b = true) : rightD a 0 = true := by
  obtain ⟨hr, hd⟩ := right_D h
  obtain ⟨a1, a2, a3, a4, a5, a6, a7, a8, a9, a10, a11, a12, a13⟩ := hr
  exact right_of a1 a2 a5 hd (by decide) (by decide) (by decide) (by decide) (by decide) (by decide) (by decide)
theorem rightD_top : rightD 65536 0 = false := by decide
/-- Nothing lies between. -/
theorem step_between {y mo d h mi s Y M D H I S : Int} (hr : rightB y mo d h mi s = true) (st : Step y mo d h mi s Y M D H I S) (a b : Int) (ha : 0 ≤ a) (hb : 0 ≤ b) (hb' : b < 65536) (hv : rightD a b = true)
    (hlt : dateI y mo d < a ∨ dateI y mo d = a ∧ clockI h mi s < b) : dateI Y M D < a ∨ dateI Y M D = a ∧ clockI H I S ≤ b := by
  obtain ⟨vr, vd⟩ := right_D hv
  have hd := right_days hr
  have hr := RightT.of hr
  obtain ⟨a1, a2, a3, a4, a5, a6, a7, a8, a9, a10, a11, a12, a13⟩ := hr
  obtain ⟨v1, v2, v3, v4, v5, v6, v7, v8, v9, v10, v11, v12, v13⟩ := vr
  unfold dateI clockI at *
  have ea : a = a / 512 * 512 + a / 32 % 16 * 32 + a % 32 := by omega
  have eb : b = b / 2048 * 2048 + b / 32 % 64 * 32 + b % 32 := by omega
  generalize a / 512 = ay at *
  generalize a / 32 % 16 = am at *
  generalize a % 32 = ad at *
  generalize b / 2048 = bh at *
  generalize b / 32 % 64 = bm at *
  generalize b % 32 = bs at *
  have hday : y = 1980 + ay → mo = am → daysI y mo = daysI (1980 + ay) am := fun e1 e2 => by rw [e1, e2]
  have hdl := days_le y mo
  generalize daysI (1980 + ay) am = dv at *
  cases st with
  | sec h1 => omega
  | minute h1 h2 => omega
  | hour h1 h2 h3 => omega
  | day h1 h2 h3 h4 => omega
  | month h1 h2 h3 h4 h5 => generalize daysI y mo = dd at *; omega
  | year h1 h2 h3 h4 h5 => generalize daysI y mo = dd at *; omega
theorem step_lt {y mo d h mi s Y M D H I S : Int} (hr : rightB y mo d h mi s = true) (st : Step y mo d h mi s Y M D H I S) : dateI y mo d < dateI Y M D ∨ dateI y mo d = dateI Y M D ∧ clockI h mi s < clockI H I S := by
  have hd := right_days hr
  have hr := RightT.of hr
  obtain ⟨a1, a2, a3, a4, a5, a6, a7, a8, a9, a10, a11, a12, a13⟩ := hr
  unfold dateI clockI
  cases st <;> omega
end Go.Proofs.Ytfjbjfebopabaaa
