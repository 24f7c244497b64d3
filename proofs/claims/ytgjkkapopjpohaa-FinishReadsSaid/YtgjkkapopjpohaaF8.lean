/- A tail, as an argument. -/
import Derived.Test.YtgjkkapopjpohaaF7
import Derived.ProofKit
import Derived.OpenShut
namespace Go
open Go.ChangeShapes Go.WideShapes Go.ChangeAt Go.RowKit Go.Deep
section
variable {H : Type} {enc : TypeId × Value → H} {P : Program} {w : World} {base : Nat} {spare : Nat → Bool} {held : Bool}
theorem open_iiib {r : Reach} {b0 : Nat} {t u ub : TypeId} {f0 f1 f2 f3 : Field} {v : Value} {d : DataW H} {p : List MemPlace} (hs : P.underlying t = some (.struct #[f0, f1, f2, f3])) (h0 : f0.offset = 0) (h1 : f1.offset = 1) (h2 : f2.offset = 2) (h3 : f3.offset = 3)
    (hu0 : f0.type = u) (hu1 : f1.type = u) (hu2 : f2.type = u) (hu3 : f3.type = ub) (hu : P.underlying u = some (.int .i64)) (hub : P.underlying ub = some .bool) (ho : P.cellsOf u = 1) (hob : P.cellsOf ub = 1) (hC : P.cellsOf t = 4)
    (hv : Value.okWide P w r b0 t v) (h : DataW.Trod enc P w base spare held t v d p) :
    ∃ (x y z : Int) (b : Bool), v = .agg #[.int .i64 x, .int .i64 y, .int .i64 z, .bool b] := by
  obtain ⟨cs, rfl, hsz⟩ := okWide_struct hs hv
  obtain ⟨fuel, hf⟩ := h
  obtain ⟨ys, n', hn', hy, hlen, hyl, hfd⟩ := DataW.trod_struct hs hf
  rw [hC] at hsz
  obtain ⟨l⟩ := cs
  match l, hsz with
  | [c0, c1, c2, c3], _ =>
    have g0 := hfd 0 f0 rfl
    have g1 := hfd 1 f1 rfl
    have g2 := hfd 2 f2 rfl
    have g3 := hfd 3 f3 rfl
    rw [h0, hu0, ho] at g0
    rw [h1, hu1, ho] at g1
    rw [h2, hu2, ho] at g2
    rw [h3, hu3, hob] at g3
    have hxl : ys.length = 4 := by first | assumption | (simp at hyl; omega) | (simp at hlen; omega)
    rw [List.getElem?_eq_getElem (by omega)] at g0
    rw [List.getElem?_eq_getElem (by omega)] at g1
    rw [List.getElem?_eq_getElem (by omega)] at g2
    rw [List.getElem?_eq_getElem (by omega)] at g3
    obtain ⟨x, e0, _, _⟩ := DataW.trod_int hu g0
    obtain ⟨y, e1, _, _⟩ := DataW.trod_int hu g1
    obtain ⟨z, e2, _, _⟩ := DataW.trod_int hu g2
    obtain ⟨b, e3, _⟩ := DataW.trod_bool hub g3
    simp [Value.cells] at e0 e1 e2 e3
    subst e0 e1 e2 e3
    exact ⟨x, y, z, b, rfl⟩
end
end Go
