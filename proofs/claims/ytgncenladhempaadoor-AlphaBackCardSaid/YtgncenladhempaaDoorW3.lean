/- The bases of lengths and distances, over the tables. -/
import Derived.Test.YtgncenladhempaaDoorW2
namespace Go.Proofs.YtgncenladhempaaDoor
open Go.RowKit

/-- A table that lies. -/
def TabAt (w : World) (g : Nat) (l : List Int) : Prop := ∀ i, i < l.length → w.cell? ⟨g, i, none⟩ = some (.int .i64 (l.getD i 0))
theorem TabAt.below {w w' : World} {g : Nat} {l : List Int} (h : TabAt w g l) (hb : Below w.heap.size w w') : TabAt w' g l := fun i hi =>
  (hb.cell (p := ⟨g, i, none⟩) (World.block_lt_of_cell? w _ (h i hi))).trans (h i hi)
abbrev base (a b : Int) (x : Bool) : Value := .tuple #[.int .i64 a, .int .i64 b, .bool x]
theorem lengthBase_in (n : Int) (k : Nat) (hk : k < 29) (hn : n - 257 = (k : Int)) (w : World) (T0 : TabAt w 0 lb) (T1 : TabAt w 1 lx) :
    Calls Tryd.prog 9 #[.int .i64 n] w fun e w' => e = .returned (base (lb.getD k 0) (lx.getD k 0) true) ∧ Below w.heap.size w w' := by
  have c0 := T0 k (by exact hk)
  have c1 := T1 k (by exact hk)
  clear T0 T1
  have i0 : (0 : Int) ≤ (k : Int) := by omega
  have i1 : (k : Int) < 29 := by omega
  generalize lb.getD k 0 = a at *
  generalize lx.getD k 0 = b at *
  go_enter Tryd.func9, Tryd.ntmps9
  go_wp2
  go_quiet (fail)
  go_wp2
  go_ret3
  exact ⟨rfl, (Below.refl _ _).drewN' _⟩
theorem lengthBase_out (n : Int) (hn : n < 257 ∨ 285 < n) (w : World) :
    Calls Tryd.prog 9 #[.int .i64 n] w fun e w' => e = .returned (base 0 0 false) ∧ Below w.heap.size w w' := by
  rcases hn with h | h
  · go_enter Tryd.func9, Tryd.ntmps9
    go_wp2
    go_ret3
    exact ⟨rfl, Below.refl _ _⟩
  · go_enter Tryd.func9, Tryd.ntmps9
    go_wp2
    go_ret3
    exact ⟨rfl, Below.refl _ _⟩
theorem distBase_in (n : Int) (k : Nat) (hk : k < 30) (hn : n = (k : Int)) (w : World) (T2 : TabAt w 2 db) :
    Calls Tryd.prog 10 #[.int .i64 n] w fun e w' => e = .returned (base (db.getD k 0) (dx.getD k 0) true) ∧ Below w.heap.size w w' := by
  subst hn
  have c0 := T2 k (by exact hk)
  clear T2
  have i0 : (0 : Int) ≤ (k : Int) := by omega
  have i1 : (k : Int) < 30 := by omega
  have e : max 0 ((k : Int) / 2 - 1) = dx.getD k 0 := by
    have key : ∀ j : Nat, j < 30 → max 0 ((j : Int) / 2 - 1) = dx.getD j 0 := by decide
    exact key k hk
  generalize db.getD k 0 = a at *
  go_enter Tryd.func10, Tryd.ntmps10
  generalize dx.getD k 0 = b at *
  go_wp2
  go_ret3
  subst e
  exact ⟨rfl, Below.refl _ _⟩
theorem distBase_out (n : Int) (hn : n < 0 ∨ 30 ≤ n) (w : World) :
    Calls Tryd.prog 10 #[.int .i64 n] w fun e w' => e = .returned (base 0 0 false) ∧ Below w.heap.size w w' := by
  rcases hn with h | h
  · go_enter Tryd.func10, Tryd.ntmps10
    go_wp2
    go_ret3
    exact ⟨rfl, Below.refl _ _⟩
  · go_enter Tryd.func10, Tryd.ntmps10
    go_wp2
    go_ret3
    exact ⟨rfl, Below.refl _ _⟩
end Go.Proofs.YtgncenladhempaaDoor
