/- Numbers behind one another; a slice of its own. -/
import Derived.Test.YtdmglpnieiiigaaDoorS3
import Derived.Test.YtdmglpnieiiigaaDoorF1
namespace Go.Proofs.YtdmglpnieiiigaaDoor
open Go.RowKit

def catK (k : Nat) (vs : List Nat) : List UInt8 := vs.flatMap fun v => leB v k
theorem catK_take (k : Nat) (vs : List Nat) (j : Nat) (h : j < vs.length) : catK k (vs.take (j + 1)) = catK k (vs.take j) ++ leB (vs.getD j 0) k := by
  unfold catK
  rw [List.take_succ_eq_append_getElem h, List.flatMap_append]
  simp [List.getD, h]
theorem vals_at (vs : List Nat) (j : Nat) (h : j < vs.length) : (vs.map fun x => Value.int .i64 (x : Nat)).toArray[j]? = some (.int .i64 ((vs.getD j 0 : Nat) : Int)) := by
  simp [List.getD, h]
def EncP (n : Nat) (bs : List UInt8) (w : World) (e : Ending) (w' : World) : Prop := ∃ A c', e = .returned (.tuple #[.slice A n c', .int .i64 0]) ∧ Bs w' (fun q => w.heap.size ≤ q) A n bs ∧ n ≤ c' ∧ Below w.heap.size w w'
theorem getD_lt {vs : List Nat} {B : Nat} (hB : 0 < B) (h : ∀ x ∈ vs, x < B) (j : Nat) : vs.getD j 0 < B := by
  by_cases hj : j < vs.length
  · rw [List.getD_eq_getElem?_getD, List.getElem?_eq_getElem hj]; exact h _ (List.getElem_mem _)
  · rw [List.getD_eq_getElem?_getD, List.getElem?_eq_none (by omega)]; exact hB

set_option maxRecDepth 100000 in
theorem own_cap {w : World} {base : Nat} {e : TypeId} {size n c : Nat} {A : Option Addr} {xs : List Value} (h : w.ownsRow base e size (.slice A n c) n xs) : n ≤ c ∧ c ≤ 9223372036854775807 := by
  rcases h.2 with ⟨h1, h2⟩ | ⟨g, cap, cur, h1, _, _, h2, h3, _⟩
  · injection h1 with _ _ h1
    omega
  · injection h1 with _ _ h1
    unfold maxLen at h3
    omega
end Go.Proofs.YtdmglpnieiiigaaDoor
