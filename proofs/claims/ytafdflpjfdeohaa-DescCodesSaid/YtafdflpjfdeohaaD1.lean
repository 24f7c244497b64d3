/- Which descriptors there may be; widths. -/
import Derived.Test.YtafdflpjfdeohaaG4
namespace Go.Proofs.Ytafdflpjfdeohaa
open Go.RowKit

def okD (p s : Int) : Bool := decide (0 ≤ p) && decide (p ≤ 33554432) && decide (0 ≤ s) && decide (s ≤ 16777216)
theorem check_any (c : Nat) (p s : Int) (wd : Bool) (w : World) : Calls Try.prog 8 #[.agg #[.int .u32 (c : Nat), .int .i64 p, .int .i64 s, .bool wd]] w fun e w' => e = .returned (if okD p s = true then .int .i64 0 else .int .i64 13) ∧ Below w.heap.size w w' := by
  by_cases h0 : p < 0
  case pos =>
    have x0 : decide (p < 0) = true := by simpa using h0
    rw [show okD p s = false from by unfold okD; simp; omega, if_neg (by simp)]
    clear h0
    go_enter Try.func8, Try.ntmps8
    go_wp2
    go_ret
    exact ⟨rfl, (Below.refl _ _).alloc (Nat.le_refl _) _⟩
  have x0 : decide (p < 0) = false := by simpa using h0
  by_cases h1 : 33554432 < p
  case pos =>
    have x1 : decide (33554432 < p) = true := by simpa using h1
    rw [show okD p s = false from by unfold okD; simp; omega, if_neg (by simp)]
    clear h0 h1
    go_enter Try.func8, Try.ntmps8
    go_wp2
    go_ret
    exact ⟨rfl, (Below.refl _ _).alloc (Nat.le_refl _) _⟩
  have x1 : decide (33554432 < p) = false := by simpa using h1
  by_cases h2 : s < 0
  case pos =>
    have x2 : decide (s < 0) = true := by simpa using h2
    rw [show okD p s = false from by unfold okD; simp; omega, if_neg (by simp)]
    clear h0 h1 h2
    go_enter Try.func8, Try.ntmps8
    go_wp2
    go_ret
    exact ⟨rfl, (Below.refl _ _).alloc (Nat.le_refl _) _⟩
  have x2 : decide (s < 0) = false := by simpa using h2
  by_cases h3 : 16777216 < s
  case pos =>
    have x3 : decide (16777216 < s) = true := by simpa using h3
    rw [show okD p s = false from by unfold okD; simp; omega, if_neg (by simp)]
    clear h0 h1 h2 h3
    go_enter Try.func8, Try.ntmps8
    go_wp2
    go_ret
    exact ⟨rfl, (Below.refl _ _).alloc (Nat.le_refl _) _⟩
  have x3 : decide (16777216 < s) = false := by simpa using h3
  rw [show okD p s = true from by unfold okD; simp; omega, if_pos rfl]
  clear h0 h1 h2 h3
  go_enter Try.func8, Try.ntmps8
  go_wp2
  go_ret
  exact ⟨rfl, (Below.refl _ _).alloc (Nat.le_refl _) _⟩
def wid (wd : Bool) : Nat := if wd then 8 else 4
theorem width_any (wd : Bool) (w : World) : Calls Try.prog 18 #[.bool wd] w fun e w' => e = .returned (.int .i64 (wid wd : Nat)) ∧ w = w' := by
  cases wd
  · go_enter Try.func18, Try.ntmps18
    go_wp2
    go_ret
    exact ⟨rfl, rfl⟩
  · go_enter Try.func18, Try.ntmps18
    go_wp2
    go_ret
    exact ⟨rfl, rfl⟩
theorem len_any (c : Nat) (p s : Int) (wd : Bool) (w : World) : Calls Try.prog 9 #[.agg #[.int .u32 (c : Nat), .int .i64 p, .int .i64 s, .bool wd]] w fun e w' => e = .returned (.int .i64 ((8 + 2 * wid wd : Nat) : Int)) ∧ Below w.heap.size w w' := by
  cases wd
  · go_enter Try.func9, Try.ntmps9
    go_wp2_with fail
    refine (width_any false _).mono ?_
    rintro e w1 ⟨rfl, rfl⟩
    rw [show wid false = 4 from rfl]
    go_wp2
    go_ret
    exact ⟨rfl, (Below.refl _ _).alloc (Nat.le_refl _) _⟩
  · go_enter Try.func9, Try.ntmps9
    go_wp2_with fail
    refine (width_any true _).mono ?_
    rintro e w1 ⟨rfl, rfl⟩
    rw [show wid true = 8 from rfl]
    go_wp2
    go_ret
    exact ⟨rfl, (Below.refl _ _).alloc (Nat.le_refl _) _⟩
end Go.Proofs.Ytafdflpjfdeohaa
