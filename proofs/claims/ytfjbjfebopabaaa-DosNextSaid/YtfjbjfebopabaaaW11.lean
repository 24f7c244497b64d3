/- What time follows: the page's answer, date by date. -/
import Derived.Test.YtfjbjfebopabaaaW10
namespace Go.Proofs.Ytfjbjfebopabaaa
open Go.RowKit

set_option maxHeartbeats 1000000 in
theorem rdecode_top (a b : Int) (w : World) (r : Bool) (hr : rightD a b = r) (a0 : 0 ≤ a) (a1 : a ≤ 65536) (b0 : 0 ≤ b) (b1 : b < 65536) :
    Calls Try.prog 10 #[.int .i64 a, .int .i64 b] w fun e w' => e = .returned (.tuple #[if r then tmD a b else tm 0 0 0 0 0 0, .bool r]) ∧ Below w.heap.size w w' := by
  have HR := Lib.hid hr
  clear hr
  go_enter Try.func10, Try.ntmps10
  go_wp2_with fail
  refine (rright_b _ HR.out).mono ?_
  rintro e w1 ⟨rfl, hb1⟩
  have k0 := fun o => (bcell hb1).1 w.heap.size o (by simp; omega)
  have k1 := fun o => (bcell hb1).1 (w.heap.size + 1) o (by simp)
  have f0 := fun o => (bcell hb1).2 w.heap.size o (by simp; omega)
  have HB1 := Lib.hid hb1
  have hbw : Below w.heap.size w w1 := (((Below.refl w.heap.size w).alloc (Nat.le_refl _) _).alloc (by simp) _).trans (hb1.mono (by simp; omega))
  have HBW := Lib.hid hbw
  clear hb1 hbw
  rcases r with _ | _
  · go_wp2
    refine bodyPost_ret (v := .tuple #[tm 0 0 0 0 0 0, .bool false]) (by simp [results, Try.results10, go_sem, k0, f0]) rfl ⟨rfl, ?_⟩
    iterate 6 refine Below.setCell ?_ (by exact Nat.le_refl _) _
    exact HBW.out
  · go_wp2
    refine bodyPost_ret (v := .tuple #[tmD a b, .bool true]) (by simp [results, Try.results10, go_sem, k0, f0]) rfl ⟨rfl, ?_⟩
    iterate 6 refine Below.setCell ?_ (by exact Nat.le_refl _) _
    exact HBW.out
theorem rdec_t (a b : Int) (w : World) (hr : rightD a b = true) (a0 : 0 ≤ a) (a1 : a ≤ 65536) (b0 : 0 ≤ b) (b1 : b < 65536) :
    Calls Try.prog 10 #[.int .i64 a, .int .i64 b] w fun e w' => e = .returned (.tuple #[tmD a b, .bool true]) ∧ Below w.heap.size w w' := rdecode_top a b w true hr a0 a1 b0 b1
theorem rdec_f (a b : Int) (w : World) (hr : rightD a b = false) (a0 : 0 ≤ a) (a1 : a ≤ 65536) (b0 : 0 ≤ b) (b1 : b < 65536) :
    Calls Try.prog 10 #[.int .i64 a, .int .i64 b] w fun e w' => e = .returned (.tuple #[tm 0 0 0 0 0 0, .bool false]) ∧ Below w.heap.size w w' := rdecode_top a b w false hr a0 a1 b0 b1
/-- From a date and a clock on the next that may be is (X, Z); or there is none. -/
structure Goal (A B X Z : Int) (r : Bool) : Prop where
  a0 : 0 ≤ A
  a1 : A < 65536
  b0 : 0 ≤ B
  b1 : B < 65536
  lt : A < X ∨ A = X ∧ B < Z
  yes : r = true → X < 65536 ∧ 0 ≤ Z ∧ Z < 65536 ∧ rightD X Z = true
  no : r = false → X = 65536 ∧ Z = 0
  gap : ∀ a b, 0 ≤ a → a < 65536 → 0 ≤ b → b < 65536 → (A < a ∨ A = a ∧ B < b) → (a < X ∨ a = X ∧ b < Z) → rightD a b = false
/-- Where the search stands: at or behind the beginning, ahead of the goal; or at the end. -/
def At (A B X Z : Int) (r : Bool) (a b : Int) : Prop :=
  0 ≤ a ∧ a ≤ 65536 ∧ 0 ≤ b ∧ b < 65536 ∧ (A < a ∨ A = a ∧ B ≤ b) ∧ ((a < X ∨ a = X ∧ b < Z) ∨ r = false ∧ a = 65536)
theorem Goal.start {A B X Z : Int} {r : Bool} (g : Goal A B X Z r) : At A B X Z r A B :=
  ⟨g.a0, Int.le_of_lt g.a1, g.b0, g.b1, .inr ⟨rfl, Int.le_refl _⟩, .inl g.lt⟩
/-- Within a date. -/
theorem Goal.within {A B X Z : Int} {r : Bool} (g : Goal A B X Z r) {a b : Int} (h : At A B X Z r a b) (ha : a < 65536) (hb : b < 65535) :
    (r = true ∧ X = a ∧ Z = b + 1 ∧ rightD a (b + 1) = true) ∨ (rightD a (b + 1) = false ∧ At A B X Z r a (b + 1)) := by
  obtain ⟨h1, h2, h3, h4, h5, h6⟩ := h
  have h6' : a < X ∨ a = X ∧ b < Z := by
    rcases h6 with h | ⟨_, h⟩
    · exact h
    · omega
  by_cases he : a = X ∧ Z = b + 1
  · obtain ⟨rfl, hz⟩ := he
    cases r with
    | true => exact .inl ⟨rfl, rfl, hz, by have := (g.yes rfl).2.2.2; rw [hz] at this; exact this⟩
    | false => have := g.no rfl; omega
  · have hlt : a < X ∨ a = X ∧ b + 1 < Z := by omega
    exact .inr ⟨g.gap a (b + 1) h1 ha (by omega) (by omega) (by omega) hlt, h1, h2, by omega, by omega, by omega, .inl hlt⟩
/-- At a date's end. -/
theorem Goal.behind {A B X Z : Int} {r : Bool} (g : Goal A B X Z r) {a : Int} (h : At A B X Z r a 65535) (ha : a < 65536) :
    (r = true ∧ X = a + 1 ∧ Z = 0 ∧ a + 1 < 65536 ∧ rightD (a + 1) 0 = true) ∨ (rightD (a + 1) 0 = false ∧ At A B X Z r (a + 1) 65535) := by
  obtain ⟨h1, h2, h3, h4, h5, h6⟩ := h
  by_cases he : a + 1 = 65536
  · rw [he]
    refine .inr ⟨rightD_top, by omega, by omega, by omega, by omega, by omega, ?_⟩
    cases r with
    | true =>
      have := g.yes rfl
      rcases h6 with h | ⟨h, _⟩
      · omega
      · cases h
    | false => exact .inr ⟨rfl, rfl⟩
  have h6' : a < X := by
    rcases h6 with h | ⟨_, h⟩
    · cases r with
      | true => have := g.yes rfl; omega
      | false => have := g.no rfl; omega
    · omega
  by_cases hx : X = a + 1 ∧ Z = 0
  · obtain ⟨rfl, rfl⟩ := hx
    cases r with
    | true => exact .inl ⟨rfl, rfl, rfl, by omega, (g.yes rfl).2.2.2⟩
    | false => have := g.no rfl; omega
  · have hz : 0 ≤ Z := by
      cases r with
      | true => exact (g.yes rfl).2.1
      | false => have := g.no rfl; omega
    have hf : rightD (a + 1) 0 = false := g.gap (a + 1) 0 (by omega) (by omega) (by omega) (by omega) (by omega) (by omega)
    refine .inr ⟨hf, by omega, by omega, by omega, by omega, by omega, .inl ?_⟩
    by_cases hax : a + 1 = X
    · exfalso
      subst hax
      cases r with
      | true =>
        have h1 := rightD_zero (g.yes rfl).2.2.2
        rw [hf] at h1
        cases h1
      | false => have := g.no rfl; omega
    · omega
theorem Goal.over {A B X Z : Int} {r : Bool} (g : Goal A B X Z r) {a b : Int} (h : At A B X Z r a b) (ha : ¬ a < 65536) : r = false := by
  obtain ⟨h1, h2, h3, h4, h5, h6⟩ := h
  cases r with
  | true => have := g.yes rfl; rcases h6 with h | ⟨h, _⟩ <;> omega
  | false => rfl
theorem goal_of {y mo d h mi s Y M D H I S : Int} (hr : rightB y mo d h mi s = true) (st : Step y mo d h mi s Y M D H I S) :
    (rightB Y M D H I S = true → Goal (dateI y mo d) (clockI h mi s) (dateI Y M D) (clockI H I S) true) ∧ (rightB Y M D H I S = false → Goal (dateI y mo d) (clockI h mi s) 65536 0 false) := by
  have hd := dateI_bd (RightT.of hr)
  have hc := clockI_bd (RightT.of hr)
  have hlt := step_lt hr st
  have hb := step_between hr st
  constructor
  · intro hq
    have qr := RightT.of hq
    have qd := dateI_bd qr
    have qc := clockI_bd qr
    obtain ⟨e1, e2, e3⟩ := back_date qr
    obtain ⟨e4, e5, e6⟩ := back_clock qr
    refine ⟨hd.1, hd.2, hc.1, hc.2, hlt, fun _ => ⟨qd.2, qc.1, qc.2, by unfold rightD; rw [e1, e2, e3, e4, e5, e6, hq]⟩, (fun h => by cases h), fun a b x0 x1 y0 y1 h1 h2 => ?_⟩
    cases hv : rightD a b with
    | false => rfl
    | true => have := hb a b x0 y0 y1 hv h1; omega
  · intro hq
    rcases step_right hr st with h | ⟨rfl, rfl, rfl, rfl, rfl, rfl, _⟩
    · rw [hq] at h; cases h
    · refine ⟨hd.1, hd.2, hc.1, hc.2, .inl hd.2, (fun h => by cases h), fun _ => ⟨rfl, rfl⟩, fun a b x0 x1 y0 y1 h1 h2 => ?_⟩
      cases hv : rightD a b with
      | false => rfl
      | true =>
        exfalso
        obtain ⟨vr, vd⟩ := right_D hv
        obtain ⟨v1, v2, v3, v4, v5, v6, v7, v8, v9, v10, v11, v12, v13⟩ := vr
        have e1 : dateI 2107 12 31 = 65439 := by decide
        have e2 : clockI 23 59 58 = 49021 := by decide
        rw [e1, e2] at h1
        omega
end Go.Proofs.Ytfjbjfebopabaaa
