/- Lists of integers that a call makes: filled place by place, or appended to. -/
import Derived.Test.YtdmglpnieiiigaaDoorList
namespace Go
open Go.RowKit

/-- f up to k, noughts behind. -/
def fillTo (f : Nat → Int) (n k : Nat) : List Int := (List.range n).map fun i => if i < k then f i else 0
theorem fillTo_len (f : Nat → Int) (n k : Nat) : (fillTo f n k).length = n := by simp [fillTo]
theorem fillTo_zero (f : Nat → Int) (n : Nat) : fillTo f n 0 = List.replicate n 0 := by
  apply List.ext_getElem
  · simp [fillTo]
  · intro i h1 h2
    simp [fillTo]
theorem fillTo_all (f : Nat → Int) (n k : Nat) (h : n ≤ k) : fillTo f n k = (List.range n).map f := by
  apply List.ext_getElem
  · simp [fillTo]
  · intro i h1 h2
    simp only [fillTo, List.length_map, List.length_range] at h1
    simp only [fillTo, List.getElem_map, List.getElem_range]
    rw [if_pos (by omega)]
theorem fillTo_set (f : Nat → Int) (n k : Nat) : (fillTo f n k).set k (f k) = fillTo f n (k + 1) := by
  apply List.ext_getElem
  · simp [fillTo]
  · intro i h1 h2
    rw [List.getElem_set]
    simp only [fillTo, List.getElem_map, List.getElem_range]
    by_cases h : k = i
    · subst h
      simp
    · rw [if_neg h]
      by_cases h3 : i < k
      · rw [if_pos h3, if_pos (by omega)]
      · rw [if_neg h3, if_neg (by omega)]
theorem range_snoc (f : Nat → Int) (k : Nat) : (List.range (k + 1)).map f = (List.range k).map f ++ [f k] := by
  rw [List.range_succ, List.map_append]
  rfl
theorem map_set_int (k : IntKind) (l : List Int) (i : Nat) (v : Int) : (l.map (Value.int k)).set i (.int k v) = (l.set i v).map (Value.int k) := by
  rw [List.map_set]
theorem toList_made_int (k : IntKind) (n : Nat) : (madeCells (Value.int k 0).cells (n * 1)).toList = (List.replicate n (0 : Int)).map (Value.int k) := by
  rw [show (Value.int k 0).cells = #[Value.int k 0] from rfl, Nat.mul_one, toList_madeCells_one, List.map_replicate]

section
variable {w w' : World} {base g n cap : Nat} {e : TypeId}
/-- A list of integers of the call's own, at the head of block g. -/
def OwnAt (w : World) (base : Nat) (e : TypeId) (k : IntKind) (g n cap : Nat) (ns : List Int) : Prop := w.ownsRow base e 1 (.slice (some ⟨g, 0, none⟩) n cap) n (ns.map (Value.int k))
theorem OwnAt.len {k : IntKind} {ns : List Int} (h : OwnAt w base e k g n cap ns) : ns.length = n := by have := h.1; simpa using this
theorem OwnAt.lt {k : IntKind} {ns : List Int} (h : OwnAt w base e k g n cap ns) : base ≤ g ∧ g < w.heap.size := World.ownsRow.lt h g rfl
theorem OwnAt.cell {k : IntKind} {ns : List Int} (h : OwnAt w base e k g n cap ns) {j : Nat} (hj : j < n) : w.cell? ⟨g, j, none⟩ = some (.int k (ns.getD j 0)) := by
  have hl := h.len
  rw [World.ownsRow.cellAt h j (by omega), List.getElem?_map, List.getElem?_eq_getElem (by omega), List.getD_eq_getElem?_getD, List.getElem?_eq_getElem (by omega)]
  rfl
theorem OwnAt.free {k : IntKind} {ns : List Int} (h : OwnAt w base e k g n cap ns) (j : Nat) : w.frozen? ⟨g, j, none⟩ = false := World.ownsRow.frozenAt h j
theorem OwnAt.put {k : IntKind} {ns : List Int} (h : OwnAt w base e k g n cap ns) (j : Nat) (u : Int) : OwnAt (w.setCell ⟨g, j, none⟩ (.int k u)) base e k g n cap (ns.set j u) := by
  have := World.ownsRow.stored h j (.int k u)
  rw [map_set_int] at this
  exact this.1
theorem OwnAt.below {B : Nat} {k : IntKind} {ns : List Int} (h : OwnAt w base e k g n cap ns) (hb : Below B w w') (hg : g < B) : OwnAt w' base e k g n cap ns := by
  obtain ⟨h1, h2⟩ := h
  refine ⟨h1, ?_⟩
  rcases h2 with ⟨h3, _⟩ | ⟨g', c', cur, hv, hb', hh, x1, x2, x3, x4⟩
  · cases h3
  · cases hv
    exact .inr ⟨g, cap, cur, rfl, hb', (hb.block g hg).trans hh, x1, x2, x3, x4⟩
theorem OwnAt.below' {k : IntKind} {ns : List Int} (h : OwnAt w base e k g n cap ns) (hb : Below w.heap.size w w') : OwnAt w' base e k g n cap ns := h.below hb h.lt.2
theorem OwnAt.lst {k : IntKind} {ns : List Int} (h : OwnAt w base e k g n cap ns) : Lst w (fun b => base ≤ b) 1 (some ⟨g, 0, none⟩) n (ns.map (Value.int k)) := Lst.of_own h
end
end Go
