/- The reader. -/
import Derived.Test.YtdmglpnieiiigaaDoorG2
import Derived.IntWalk
import Derived.Defers
import Derived.Recover
namespace Go.Proofs.YtdmglpnieiiigaaDoor
open Go.RowKit

/-- What a relation keeps: the blocks from B on. -/
def Keep (B : Nat) (R : World → World → Prop) : Prop := ∀ a b, R a b → a.heap.size ≤ b.heap.size ∧ ∀ k t cs, B ≤ k → Whole a k t cs → Whole b k t cs
set_option maxRecDepth 100000 in
theorem keep_below (B : Nat) : Keep B fun a b => Below a.heap.size a b := fun _ _ h => ⟨h.size, fun _ _ _ _ hw => hw.below' h⟩
/-- What Try leaves: what it returns, and what its function did, within blocks of its own. -/
def TryP (w : World) (R : World → World → Prop) (v : Value) (c : Int) (e : Ending) (w' : World) : Prop := e = .returned (.tuple #[v, .int .i64 c]) ∧ ∃ w1 w2, Below w.heap.size w w1 ∧ R w1 w2 ∧ Below w.heap.size w2 w'

/-- The reader's block: its bytes, and where it is. -/
def Rdr (w : World) (g : Nat) (A : Option Addr) (n c : Nat) (bs : List UInt8) (p : Nat) : Prop := Whole w g 70 #[.slice A n c, .int .i64 p] ∧ Bs w (fun b => b ≠ g) A n bs
set_option maxRecDepth 100000 in
theorem Rdr.below {w w' : World} {g n c p : Nat} {A : Option Addr} {bs : List UInt8} (h : Rdr w g A n c bs p) (hb : Below w.heap.size w w') : Rdr w' g A n c bs p := ⟨h.1.below' hb, h.2.below hb⟩
def At (w : World) (p : Int) (e : Ending) (w' : World) : Prop := e = .returned (.int .i64 p) ∧ Below w.heap.size w w'
set_option maxRecDepth 100000 in
theorem left_any (g : Nat) (A : Option Addr) (n c : Nat) (bs : List UInt8) (p : Nat) (w : World) (h : Rdr w g A n c bs p) (hp : p ≤ n) (hn : n ≤ 140737488355328) : Calls Tryd.prog 64 #[.pointer (some ⟨g, 0, none⟩)] w (At w ((n : Int) - p)) := by
  have c0 := h.1.cell 0
  have f0 := h.1.free 0
  have c1 := h.1.cell 1
  have f1 := h.1.free 1
  clear h
  go_enter Tryd.func64, Tryd.ntmps64
  go_wp2_with fail
  go_quiet (fail)
  go_wp2
  go_ret
  exact ⟨rfl, rfl, rfl, rfl, Nat.le_refl _, fun _ _ => rfl⟩
end Go.Proofs.YtdmglpnieiiigaaDoor
