/- Which ends there may be. -/
import Derived.Test.YtgjkkapopjpohaaF1
namespace Go.Proofs.Ytgjkkapopjpohaa
open Go.RowKit

def okT (n s a : Int) : Bool := decide (0 ≤ n) && decide (n ≤ 1000) && decide (0 ≤ s) && decide (s < 4294967295) && decide (0 ≤ a) && decide (a < 4294967295)
theorem check_any (n s a : Int) (wd : Bool) (w : World) : Calls Try.prog 10 #[.agg #[.int .i64 n, .int .i64 s, .int .i64 a, .bool wd]] w fun e w' => e = .returned (if okT n s a = true then .int .i64 0 else .int .i64 13) ∧ Below w.heap.size w w' := by
  by_cases h0 : 0 ≤ n
  case neg =>
    have x0 : decide (0 ≤ n) = false := by simpa using h0
    rw [show okT n s a = false from by unfold okT; simp; omega, if_neg (by simp)]
    clear h0
    go_enter Try.func10, Try.ntmps10
    go_wp2
    go_ret
    exact ⟨rfl, (Below.refl _ _).alloc (Nat.le_refl _) _⟩
  have x0 : decide (0 ≤ n) = true := by simpa using h0
  by_cases h1 : n ≤ 1000
  case neg =>
    have x1 : decide (n ≤ 1000) = false := by simpa using h1
    rw [show okT n s a = false from by unfold okT; simp; omega, if_neg (by simp)]
    clear h0 h1
    go_enter Try.func10, Try.ntmps10
    go_wp2
    go_ret
    exact ⟨rfl, (Below.refl _ _).alloc (Nat.le_refl _) _⟩
  have x1 : decide (n ≤ 1000) = true := by simpa using h1
  by_cases h2 : 0 ≤ s
  case neg =>
    have x2 : decide (0 ≤ s) = false := by simpa using h2
    rw [show okT n s a = false from by unfold okT; simp; omega, if_neg (by simp)]
    clear h0 h1 h2
    go_enter Try.func10, Try.ntmps10
    go_wp2
    go_ret
    exact ⟨rfl, (Below.refl _ _).alloc (Nat.le_refl _) _⟩
  have x2 : decide (0 ≤ s) = true := by simpa using h2
  by_cases h3 : s < 4294967295
  case neg =>
    have x3 : decide (s < 4294967295) = false := by simpa using h3
    rw [show okT n s a = false from by unfold okT; simp; omega, if_neg (by simp)]
    clear h0 h1 h2 h3
    go_enter Try.func10, Try.ntmps10
    go_wp2
    go_ret
    exact ⟨rfl, (Below.refl _ _).alloc (Nat.le_refl _) _⟩
  have x3 : decide (s < 4294967295) = true := by simpa using h3
  by_cases h4 : 0 ≤ a
  case neg =>
    have x4 : decide (0 ≤ a) = false := by simpa using h4
    rw [show okT n s a = false from by unfold okT; simp; omega, if_neg (by simp)]
    clear h0 h1 h2 h3 h4
    go_enter Try.func10, Try.ntmps10
    go_wp2
    go_ret
    exact ⟨rfl, (Below.refl _ _).alloc (Nat.le_refl _) _⟩
  have x4 : decide (0 ≤ a) = true := by simpa using h4
  by_cases h5 : a < 4294967295
  case neg =>
    have x5 : decide (a < 4294967295) = false := by simpa using h5
    rw [show okT n s a = false from by unfold okT; simp; omega, if_neg (by simp)]
    clear h0 h1 h2 h3 h4 h5
    go_enter Try.func10, Try.ntmps10
    go_wp2
    go_ret
    exact ⟨rfl, (Below.refl _ _).alloc (Nat.le_refl _) _⟩
  have x5 : decide (a < 4294967295) = true := by simpa using h5
  rw [show okT n s a = true from by unfold okT; simp; omega, if_pos rfl]
  clear h0 h1 h2 h3 h4 h5
  go_enter Try.func10, Try.ntmps10
  go_wp2
  go_ret
  exact ⟨rfl, (Below.refl _ _).alloc (Nat.le_refl _) _⟩
theorem rcheck_any (n s a : Int) (wd : Bool) (w : World) : Calls Try.prog 8 #[.agg #[.int .i64 n, .int .i64 s, .int .i64 a, .bool wd]] w fun e w' => e = .returned (if okT n s a = true then .bool true else .bool false) ∧ Below w.heap.size w w' := by
  by_cases h0 : 0 ≤ n
  case neg =>
    have x0 : decide (0 ≤ n) = false := by simpa using h0
    rw [show okT n s a = false from by unfold okT; simp; omega, if_neg (by simp)]
    clear h0
    go_enter Try.func8, Try.ntmps8
    go_wp2
    go_ret
    exact ⟨rfl, (Below.refl _ _).alloc (Nat.le_refl _) _⟩
  have x0 : decide (0 ≤ n) = true := by simpa using h0
  by_cases h1 : n ≤ 1000
  case neg =>
    have x1 : decide (n ≤ 1000) = false := by simpa using h1
    rw [show okT n s a = false from by unfold okT; simp; omega, if_neg (by simp)]
    clear h0 h1
    go_enter Try.func8, Try.ntmps8
    go_wp2
    go_ret
    exact ⟨rfl, (Below.refl _ _).alloc (Nat.le_refl _) _⟩
  have x1 : decide (n ≤ 1000) = true := by simpa using h1
  by_cases h2 : 0 ≤ s
  case neg =>
    have x2 : decide (0 ≤ s) = false := by simpa using h2
    rw [show okT n s a = false from by unfold okT; simp; omega, if_neg (by simp)]
    clear h0 h1 h2
    go_enter Try.func8, Try.ntmps8
    go_wp2
    go_ret
    exact ⟨rfl, (Below.refl _ _).alloc (Nat.le_refl _) _⟩
  have x2 : decide (0 ≤ s) = true := by simpa using h2
  by_cases h3 : s < 4294967295
  case neg =>
    have x3 : decide (s < 4294967295) = false := by simpa using h3
    rw [show okT n s a = false from by unfold okT; simp; omega, if_neg (by simp)]
    clear h0 h1 h2 h3
    go_enter Try.func8, Try.ntmps8
    go_wp2
    go_ret
    exact ⟨rfl, (Below.refl _ _).alloc (Nat.le_refl _) _⟩
  have x3 : decide (s < 4294967295) = true := by simpa using h3
  by_cases h4 : 0 ≤ a
  case neg =>
    have x4 : decide (0 ≤ a) = false := by simpa using h4
    rw [show okT n s a = false from by unfold okT; simp; omega, if_neg (by simp)]
    clear h0 h1 h2 h3 h4
    go_enter Try.func8, Try.ntmps8
    go_wp2
    go_ret
    exact ⟨rfl, (Below.refl _ _).alloc (Nat.le_refl _) _⟩
  have x4 : decide (0 ≤ a) = true := by simpa using h4
  by_cases h5 : a < 4294967295
  case neg =>
    have x5 : decide (a < 4294967295) = false := by simpa using h5
    rw [show okT n s a = false from by unfold okT; simp; omega, if_neg (by simp)]
    clear h0 h1 h2 h3 h4 h5
    go_enter Try.func8, Try.ntmps8
    go_wp2
    go_ret
    exact ⟨rfl, (Below.refl _ _).alloc (Nat.le_refl _) _⟩
  have x5 : decide (a < 4294967295) = true := by simpa using h5
  rw [show okT n s a = true from by unfold okT; simp; omega, if_pos rfl]
  clear h0 h1 h2 h3 h4 h5
  go_enter Try.func8, Try.ntmps8
  go_wp2
  go_ret
  exact ⟨rfl, (Below.refl _ _).alloc (Nat.le_refl _) _⟩
theorem ref_any (n s a : Int) (wd : Bool) (w : World) : Calls Try.prog 9 #[.agg #[.int .i64 n, .int .i64 s, .int .i64 a, .bool wd]] w fun e w' => e = .returned (.agg #[.int .i64 n, .int .i64 s, .int .i64 a, .bool wd]) ∧ Below w.heap.size w w' := by
  go_enter Try.func9, Try.ntmps9
  go_wp2
  exact bodyPost_ret (v := .agg #[.int .i64 n, .int .i64 s, .int .i64 a, .bool wd]) (by simp [results, Try.results9, go_sem]) rfl ⟨rfl, ((Below.refl _ _).alloc (Nat.le_refl _) _).alloc (by simp) _⟩
end Go.Proofs.Ytgjkkapopjpohaa
