/- Arguments that are slices of integers, read as lists. -/
import Derived.Test.YtdmglpnieiiigaaDoorShapes
import Derived.Test.YtdmglpnieiiigaaDoorList
namespace Go
open Go.ChangeShapes Go.WideShapes Go.ChangeAt Go.RowKit Go.Deep

theorem IntsAt.lst {w : World} {A : Option Addr} {len : Nat} {k : IntKind} {f : Nat → Int} (h : IntsAt w A len k f) :
    ∃ ns : List Int, ns.length = len ∧ Lst w (fun b => b < w.heap.size) 1 A len (ns.map (Value.int k)) ∧ ∀ x ∈ ns, (Lit.int k x).wf = true := by
  refine ⟨(List.range len).map f, by simp, ⟨by simp, fun hn => ?_⟩, fun x hx => ?_⟩
  · obtain ⟨b, off, e, hb, hc⟩ := h hn
    refine ⟨b, off, e, hb, hb, fun i v hi => ?_⟩
    rw [List.getElem?_map, List.getElem?_map] at hi
    rcases Nat.lt_or_ge i len with hl | hl
    · rw [List.getElem?_range hl] at hi
      simp at hi
      rw [← hi]
      exact (hc i hl).1
    · rw [List.getElem?_eq_none (by simpa using hl)] at hi
      simp at hi
  · obtain ⟨i, hi, rfl⟩ := List.mem_map.1 hx
    have hl : i < len := by simpa using hi
    obtain ⟨b, off, e, hb, hc⟩ := h (by omega)
    exact (hc i hl).2

section
variable {H : Type} {enc : TypeId × Value → H} {P : Program} {w : World} {base : Nat} {spare : Nat → Bool} {held : Bool}
theorem open_ints_list {k : IntKind} {r : Reach} {b0 : Nat} {t e : TypeId} {v : Value} {d : DataW H} {p : List MemPlace} (ht : P.underlying t = some (.slice e)) (he : P.underlying e = some (.int k)) (hone : P.cellsOf e = 1)
    (hv : Value.okWide P w r b0 t v) (h : DataW.Trod enc P w base spare held t v d p) :
    ∃ (A : Option Addr) (n c : Nat) (ns : List Int), v = .slice A n c ∧ n ≤ c ∧ c ≤ 9223372036854775807 ∧ Lst w (fun b => b < w.heap.size) 1 A n (ns.map (Value.int k)) ∧ ∀ x ∈ ns, (Lit.int k x).wf = true := by
  obtain ⟨A, n, c, f, rfl, h1, h2, h3⟩ := open_int_slice ht he hone hv h
  obtain ⟨ns, _, h4, h5⟩ := h3.lst
  unfold maxLen at h2
  exact ⟨A, n, c, ns, rfl, h1, h2, h4, h5⟩
end
end Go
