import Derived.Test.YtfjbjfebopabaaaW1
import Derived.Deep.RegionHeld3
import Derived.LoopTactic
import Derived.Lib.Hide
namespace Go.Proofs.Ytfjbjfebopabaaa
open Go.RowKit

theorem t400 (y : Int) (h : y.tmod 400 = 0) : y.tmod 4 = 0 := by
  have h1 := Int.dvd_of_tmod_eq_zero h
  exact Int.tmod_eq_zero_of_dvd (by omega)
set_option maxHeartbeats 1000000 in
theorem rdays_any (y m : Int) (w : World) :
    Calls Try.prog 18 #[.int .i64 y, .int .i64 m] w fun e w' => e = .returned (.int .i64 (daysI y m)) ∧ Below w.heap.size w w' := by
  by_cases h1 : m < 1
  · go_enter Try.func18, Try.ntmps18
    go_wp2
    go_ret
    exact ⟨ret_int (by unfold daysI; (repeat rw [if_neg (by omega)])), (Below.refl _ _).alloc (Nat.le_refl _) _⟩
  by_cases h2 : 12 < m
  · go_enter Try.func18, Try.ntmps18
    go_wp2
    go_ret
    exact ⟨ret_int (by unfold daysI; (repeat rw [if_neg (by omega)])), (Below.refl _ _).alloc (Nat.le_refl _) _⟩
  have h3 : m = 1 ∨ m = 2 ∨ m = 3 ∨ m = 4 ∨ m = 5 ∨ m = 6 ∨ m = 7 ∨ m = 8 ∨ m = 9 ∨ m = 10 ∨ m = 11 ∨ m = 12 := by omega
  clear h1 h2
  rcases h3 with rfl | rfl | rfl | rfl | rfl | rfl | rfl | rfl | rfl | rfl | rfl | rfl
  all_goals
    go_enter Try.func18, Try.ntmps18
    go_wp2
    all_goals
      go_ret
      exact ⟨ret_int (by have := t400 y; simp_all [daysI, leap]; try omega), (Below.refl _ _).alloc (Nat.le_refl _) _⟩

set_option maxHeartbeats 400000 in
theorem fields_any (y mo d h mi s : Int) (w : World) :
    Calls Try.prog 22 #[.agg #[.int .i64 y, .int .i64 mo, .int .i64 d, .int .i64 h, .int .i64 mi, .int .i64 s]] w fun e w' => ∃ o, e = .returned (.slice (some ⟨w.heap.size + 1, 0, none⟩) 6 6) ∧ w' = (w.alloc o).alloc (.cells #[.int .i64 y, .int .i64 mo, .int .i64 d, .int .i64 h, .int .i64 mi, .int .i64 s] 3) := by
  go_enter Try.func22, Try.ntmps22
  go_wp2
  go_ret
  exact ⟨_, rfl, rfl⟩
def orL : List Int → Int | [] => 0 | x :: xs => if x ≠ 0 then x else orL xs
theorem orL_zero (xs : List Int) (k : Nat) (h : ∀ j, j < k → xs.getD j 0 = 0) : orL xs = orL (xs.drop k) := by
  induction k generalizing xs with
  | zero => rfl
  | succ k ih =>
    cases xs with
    | nil => rfl
    | cons x xs =>
      have h0 := h 0 (by omega)
      simp at h0
      subst h0
      simp only [orL, List.drop_succ_cons]
      rw [if_neg (by simp)]
      exact ih xs fun j hj => by have := h (j + 1) (by omega); simpa using this
theorem orL_at (xs : List Int) (k : Nat) (hk : k < xs.length) (h : ∀ j, j < k → xs.getD j 0 = 0) (hx : xs.getD k 0 ≠ 0) : orL xs = xs.getD k 0 := by
  rw [orL_zero xs k h, List.drop_eq_getElem_cons hk]
  have e : xs.getD k 0 = xs[k] := by simp [List.getD, hk]
  rw [e] at hx ⊢
  simp [orL, hx]
set_option maxHeartbeats 400000 in
theorem or_any (b : Nat) (xs : List Int) (w : World) (hl : xs.length ≤ 100) (hc : ∀ k, k < xs.length → w.cell? ⟨b, k, none⟩ = some (.int .i64 (xs.getD k 0))) :
    Calls Try.prog 20 #[.slice (some ⟨b, 0, none⟩) xs.length xs.length] w fun e w' => e = .returned (.int .i64 (orL xs)) ∧ w = w' := by
  have HC := Lib.hid hc
  clear hc
  go_enter Try.func20, Try.ntmps20
  go_wp2
  go_loop [8] (fun i => ∃ k : Nat, k ≤ xs.length ∧ i = .int .i64 k ∧ (∀ j, j < k → xs.getD j 0 = 0)) (fun i => xs.length - (intOf i).toNat)
  case atStart => exact ⟨0, Nat.zero_le _, rfl, fun j hj => absurd hj (by omega)⟩
  case round =>
    obtain ⟨k, hk, rfl, hz⟩ := hrel
    have HZ := Lib.hid hz
    clear hz
    by_cases hlt : k < xs.length
    · have hcell := HC.out k hlt
      by_cases hx : xs.getD k 0 = 0
      · rw [hx] at hcell
        go_wp2
        go_round
        case rel =>
          refine ⟨k + 1, by omega, by go_num, fun j hj => ?_⟩
          by_cases hjk : j < k
          · exact HZ.out j hjk
          · have : j = k := by omega
            rw [this]
            exact hx
        case measure => simp [intOf]; omega
      · have HX := Lib.hid hx
        generalize hv : xs.getD k 0 = v at hcell hx
        have HV := Lib.hid hv
        clear hv
        have hx' : (v == 0) = false := by simpa using hx
        go_wp2
        go_ret
        exact ⟨ret_int (by rw [orL_at xs k hlt HZ.out HX.out]; exact HV.out.symm), rfl⟩
    · go_wp2
      go_ret
      refine ⟨ret_int ?_, rfl⟩
      rw [orL_zero xs k HZ.out, List.drop_eq_nil_of_le (by omega)]
      rfl
end Go.Proofs.Ytfjbjfebopabaaa
