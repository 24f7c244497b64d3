/- Steps that are run, and what they are by definition. -/
import Derived.Test.YtmmckhkiclifjaaW6
namespace Go.Proofs.Ytmmckhkiclifjaa

def bump (p : Int × Option Int) : Int := match p.2 with | none => p.1 | some _ => p.1 + 1000
def runL : List (Int × Int) → Int → Int × Option Int
  | [], n => (n, none)
  | p :: r, n =>
    if p.1 = 0 then runL r (n + 1)
    else if p.1 = 1 then (n, some p.2)
    else if p.1 = 3 then runL (r.drop (endL r 0 + 1)) (bump (runL (r.take (endL r 0)) n))
    else runL r n
termination_by l => l.length
decreasing_by all_goals (simp; try omega)
def refL : List (Int × Int) → Int → Nat → Int × Int
  | [], n, _ => (n, 0)
  | p :: r, n, d =>
    if p.1 = 0 then refL r (n + 1) d
    else if p.1 = 1 then (if d = 0 then (n, p.2) else refL (r.drop (endL r 0 + 1)) (n + 1000) (d - 1))
    else if p.1 = 3 then refL r n (d + 1)
    else if p.1 = 4 then refL r n (d - 1)
    else refL r n d
termination_by l => l.length
decreasing_by all_goals (simp; try omega)

theorem endL3 {p : Int × Int} (r : List (Int × Int)) (d : Nat) (h : p.1 = 3) : endL (p :: r) d = 1 + endL r (d + 1) := by
  simp only [endL]
  rw [if_pos h]
theorem endL40 {p : Int × Int} (r : List (Int × Int)) (h : p.1 = 4) : endL (p :: r) 0 = 0 := by
  simp only [endL]
  rw [if_neg (by omega), if_pos h]
  simp
theorem endL4 {p : Int × Int} (r : List (Int × Int)) (d : Nat) (h : p.1 = 4) : endL (p :: r) (d + 1) = 1 + endL r d := by
  simp only [endL]
  rw [if_neg (by omega), if_pos h, if_neg (by omega)]
  rfl
theorem endL0 {p : Int × Int} (r : List (Int × Int)) (d : Nat) (h : ¬ p.1 = 3) (h' : ¬ p.1 = 4) : endL (p :: r) d = 1 + endL r d := by
  simp only [endL]
  rw [if_neg h, if_neg h']
theorem endL_more (r : List (Int × Int)) (a d : Nat) : (endL r a < r.length → endL r (a + 1 + d) = endL r a + 1 + endL (r.drop (endL r a + 1)) d) ∧ (endL r a = r.length → endL r (a + 1 + d) = r.length) := by
  induction r generalizing a with
  | nil => exact ⟨fun h => absurd h (by simp), fun _ => rfl⟩
  | cons p r ih =>
    by_cases h3 : p.1 = 3
    · rw [endL3 r _ h3, endL3 r _ h3, List.length_cons, show a + 1 + d + 1 = (a + 1) + 1 + d by omega]
      obtain ⟨i1, i2⟩ := ih (a + 1)
      refine ⟨fun h => ?_, fun h => ?_⟩
      · rw [i1 (by omega), show 1 + endL r (a + 1) + 1 = (endL r (a + 1) + 1) + 1 by omega, List.drop_succ_cons]
        omega
      · rw [i2 (by omega)]
        omega
    · by_cases h4 : p.1 = 4
      · rw [show a + 1 + d = (a + d) + 1 by omega, endL4 r _ h4]
        cases a with
        | zero =>
          rw [endL40 r h4]
          exact ⟨fun _ => by simp, fun h => absurd h (by simp)⟩
        | succ a =>
          rw [endL4 r _ h4, List.length_cons, show a + 1 + d = a + 1 + d by omega]
          obtain ⟨i1, i2⟩ := ih a
          refine ⟨fun h => ?_, fun h => ?_⟩
          · rw [i1 (by omega), show 1 + endL r a + 1 = (endL r a + 1) + 1 by omega, List.drop_succ_cons]
            omega
          · rw [i2 (by omega)]
            omega
      · rw [endL0 r _ h3 h4, endL0 r _ h3 h4, List.length_cons]
        obtain ⟨i1, i2⟩ := ih a
        refine ⟨fun h => ?_, fun h => ?_⟩
        · rw [i1 (by omega), show 1 + endL r a + 1 = (endL r a + 1) + 1 by omega, List.drop_succ_cons]
          omega
        · rw [i2 (by omega)]
          omega
theorem endL_take (l : List (Int × Int)) (m d : Nat) : endL (l.take m) d = min m (endL l d) := by
  induction l generalizing m d with
  | nil => simp [endL]
  | cons p r ih =>
    cases m with
    | zero => simp [endL]
    | succ m =>
      simp only [List.take_succ_cons, endL, ih]
      repeat' split
      all_goals omega
theorem runL_nil (n : Int) : runL [] n = (n, none) := by rw [runL]
theorem refL_nil (n : Int) (d : Nat) : refL [] n d = (n, 0) := by rw [refL]
theorem refL_deep (k : Nat) : ∀ (l : List (Int × Int)) (n : Int) (d : Nat), l.length ≤ k → refL l n (d + 1) = refL (l.drop (endL l 0 + 1)) (bump (runL (l.take (endL l 0)) n)) d := by
  induction k with
  | zero =>
    intro l n d hl
    obtain rfl : l = [] := List.eq_nil_of_length_eq_zero (by omega)
    simp [refL_nil, endL, runL_nil, bump]
  | succ k ih =>
    intro l n d hl
    cases l with
    | nil => simp [refL_nil, endL, runL_nil, bump]
    | cons p r =>
      simp only [List.length_cons] at hl
      rw [refL]
      by_cases h0 : p.1 = 0
      · rw [if_pos h0, ih r _ _ (by omega)]
        simp only [endL]
        rw [if_neg (by omega), if_neg (by omega), show 1 + endL r 0 + 1 = (endL r 0 + 1) + 1 by omega, List.drop_succ_cons, Nat.add_comm 1, List.take_succ_cons]
        conv => rhs; rw [runL]
        rw [if_pos h0]
      rw [if_neg h0]
      by_cases h1 : p.1 = 1
      · rw [if_pos h1, if_neg (by omega)]
        simp only [endL]
        rw [if_neg (by omega), if_neg (by omega), show 1 + endL r 0 + 1 = (endL r 0 + 1) + 1 by omega, List.drop_succ_cons, Nat.add_comm 1, List.take_succ_cons, runL, if_neg h0, if_pos h1]
        rfl
      rw [if_neg h1]
      by_cases h3 : p.1 = 3
      · rw [if_pos h3, ih r n (d + 1) (by omega)]
        have hle := endL_le r 0
        obtain ⟨i1, i2⟩ := endL_more r 0 0
        simp only [endL]
        rw [if_pos h3, show 1 + endL r (0 + 1) + 1 = (endL r (0 + 1) + 1) + 1 by omega, List.drop_succ_cons, Nat.add_comm 1, List.take_succ_cons]
        conv => rhs; rw [runL]
        rw [if_neg h0, if_neg h1, if_pos h3, endL_take]
        rw [show 0 + 1 + 0 = 0 + 1 by omega] at i1 i2
        by_cases hlt : endL r 0 < r.length
        · rw [i1 hlt, Nat.min_eq_right (by omega), List.take_take, Nat.min_eq_left (by omega), List.drop_take]
          rw [ih _ _ d (by simp; omega)]
          rw [List.drop_drop, show endL r 0 + 1 + endL (r.drop (endL r 0 + 1)) 0 - (endL r 0 + 1) = endL (r.drop (endL r 0 + 1)) 0 by omega]
          rfl
        · rw [i2 (by omega), show endL r 0 = r.length by omega]
          have hd : r.drop (r.length + 1) = [] := List.drop_eq_nil_of_le (by omega)
          simp [hd, refL_nil, runL_nil]
          simp [bump]
      rw [if_neg h3]
      by_cases h4 : p.1 = 4
      · rw [if_pos h4]
        rw [endL40 r h4]
        simp [runL_nil, bump]
      · rw [if_neg h4, ih r _ _ (by omega)]
        simp only [endL]
        rw [if_neg h3, if_neg h4, show 1 + endL r 0 + 1 = (endL r 0 + 1) + 1 by omega, List.drop_succ_cons, Nat.add_comm 1, List.take_succ_cons]
        conv => rhs; rw [runL]
        rw [if_neg h0, if_neg h1, if_neg h3]
def codeOf (p : Int × Option Int) : Int × Int := (p.1, p.2.getD 0)
theorem refL_top (k : Nat) : ∀ (l : List (Int × Int)) (n : Int), l.length ≤ k → refL l n 0 = codeOf (runL l n) := by
  induction k with
  | zero =>
    intro l n hl
    obtain rfl : l = [] := List.eq_nil_of_length_eq_zero (by omega)
    simp [refL_nil, runL_nil, codeOf]
  | succ k ih =>
    intro l n hl
    cases l with
    | nil => simp [refL_nil, runL_nil, codeOf]
    | cons p r =>
      simp only [List.length_cons] at hl
      rw [refL, runL]
      by_cases h0 : p.1 = 0
      · rw [if_pos h0, if_pos h0, ih r _ (by omega)]
      rw [if_neg h0, if_neg h0]
      by_cases h1 : p.1 = 1
      · rw [if_pos h1, if_pos h1]
        rfl
      rw [if_neg h1, if_neg h1]
      by_cases h3 : p.1 = 3
      · rw [if_pos h3, if_pos h3, refL_deep r.length r n 0 (Nat.le_refl _), ih _ _ (by simp; omega)]
      rw [if_neg h3, if_neg h3]
      by_cases h4 : p.1 = 4
      · rw [if_pos h4, ih r _ (by omega)]
      · rw [if_neg h4, ih r _ (by omega)]
theorem runL_bounds (k : Nat) : ∀ (l : List (Int × Int)) (n : Int), l.length ≤ k → n ≤ (runL l n).1 ∧ (runL l n).1 ≤ n + 1000 * l.length ∧ bump (runL l n) ≤ n + 1000 * l.length + 1000 ∧ n ≤ bump (runL l n) := by
  have hb : ∀ q : Int × Option Int, bump q = q.1 ∨ bump q = q.1 + 1000 := fun q => by
    unfold bump
    split <;> simp
  have two : ∀ (l : List (Int × Int)) (n : Int), n ≤ (runL l n).1 ∧ (runL l n).1 ≤ n + 1000 * l.length → n ≤ (runL l n).1 ∧ (runL l n).1 ≤ n + 1000 * l.length ∧ bump (runL l n) ≤ n + 1000 * l.length + 1000 ∧ n ≤ bump (runL l n) := fun l n h => by
    rcases hb (runL l n) with h1 | h1 <;> omega
  induction k with
  | zero =>
    intro l n hl
    obtain rfl : l = [] := List.eq_nil_of_length_eq_zero (by omega)
    refine two _ _ ?_
    simp [runL_nil]
  | succ k ih =>
    intro l n hl
    refine two _ _ ?_
    cases l with
    | nil => simp [runL_nil]
    | cons p r =>
      simp only [List.length_cons] at hl ⊢
      rw [runL]
      by_cases h0 : p.1 = 0
      · rw [if_pos h0]
        have := ih r (n + 1) (by omega)
        omega
      rw [if_neg h0]
      by_cases h1 : p.1 = 1
      · rw [if_pos h1]
        simp only
        omega
      rw [if_neg h1]
      by_cases h3 : p.1 = 3
      · rw [if_pos h3]
        have hle := endL_le r 0
        have a1 := ih (r.take (endL r 0)) n (by simp; omega)
        have a2 := ih (r.drop (endL r 0 + 1)) (bump (runL (r.take (endL r 0)) n)) (by simp; omega)
        simp only [List.length_take, List.length_drop] at a1 a2
        omega
      · rw [if_neg h3]
        have := ih r n (by omega)
        omega
theorem runL_code (k : Nat) : ∀ (l : List (Int × Int)) (n m c : Int), l.length ≤ k → (∀ p ∈ l, 1 ≤ p.2 ∧ p.2 ≤ 64) → runL l n = (m, some c) → 1 ≤ c ∧ c ≤ 64 := by
  induction k with
  | zero =>
    intro l n m c hl _ h
    obtain rfl : l = [] := List.eq_nil_of_length_eq_zero (by omega)
    rw [runL_nil] at h
    cases h
  | succ k ih =>
    intro l n m c hl hp h
    cases l with
    | nil => rw [runL_nil] at h; cases h
    | cons p r =>
      simp only [List.length_cons] at hl
      have hr : ∀ q ∈ r, 1 ≤ q.2 ∧ q.2 ≤ 64 := fun q hq => hp q (by simp [hq])
      rw [runL] at h
      split at h
      · exact ih r _ m c (by omega) hr h
      · split at h
        · injection h with _ h
          injection h with h
          exact h ▸ hp p (by simp)
        · split at h
          · exact ih _ _ m c (by simp; omega) (fun q hq => hr q (List.mem_of_mem_drop hq)) h
          · exact ih r _ m c (by omega) hr h
end Go.Proofs.Ytmmckhkiclifjaa
