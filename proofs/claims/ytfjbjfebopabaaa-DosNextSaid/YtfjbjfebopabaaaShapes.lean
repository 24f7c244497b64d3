/- Arguments that are structs or arrays of integers, opened whatever their number. -/
import Derived.ProofKit
import Derived.OpenShut
import Derived.Deep.Fields
namespace Go
open Go.ChangeShapes Go.WideShapes Go.ChangeAt Go.RowKit Go.Deep

section
variable {H : Type} {enc : TypeId × Value → H} {P : Program} {w : World} {base : Nat} {spare : Nat → Bool} {held : Bool}

theorem list_of_ints {k : IntKind} (l : List Value) (h : ∀ x ∈ l, ∃ n, x = .int k n ∧ (Lit.int k n).wf = true) : ∃ ns : List Int, l = ns.map (Value.int k) ∧ ∀ n ∈ ns, (Lit.int k n).wf = true := by
  induction l with
  | nil => exact ⟨[], rfl, fun n hn => by cases hn⟩
  | cons x l ih =>
    obtain ⟨n, rfl, hw⟩ := h x (by simp)
    obtain ⟨ns, rfl, hws⟩ := ih fun y hy => h y (by simp [hy])
    exact ⟨n :: ns, rfl, fun m hm => by
      rcases List.mem_cons.1 hm with rfl | hm
      · exact hw
      · exact hws m hm⟩

/-- What is read of arguments is read as before, behind a call that only made memory. -/
theorem below_all (hl : laidOutB P = true) {W W' : World} (hb : Below W.heap.size W W') : ∀ {ts : List TypeId} {vs : List Value} {ds : List (DataW H)} {p : List MemPlace},
    (∀ t ∈ ts, P.readableRec t = true ∧ t < P.types.size) → DataW.TrodAll enc P W 0 (fun _ => true) true ts vs ds p → DataW.TrodAll enc P W' 0 (fun b => decide (b < W.heap.size)) true ts vs ds p
  | [], [], [], _, _, h => h
  | [], _ :: _, _, _, _, h => h.elim
  | [], [], _ :: _, _, _, h => h.elim
  | _ :: _, [], _, _, _, h => h.elim
  | _ :: _, _ :: _, [], _, _, h => h.elim
  | t :: ts, v :: vs, d :: ds, p, hr, h => by
    obtain ⟨p1, p2, h1, h2, rfl⟩ := h
    have hlt : ∀ x ∈ p1, x.block < W.heap.size := by
      obtain ⟨m, hm⟩ := h1
      exact DataW.trod_lt m _ _ _ hm
    exact ⟨p1, p2, Below.trod hl (hr t (by simp)).1 (hr t (by simp)).2 h1 hb hlt, below_all hl hb (fun t ht => hr t (by simp [ht])) h2, rfl⟩

theorem open_int_struct {k : IntKind} {r : Reach} {b0 : Nat} {t e : TypeId} {fs : Array Field} {v : Value} {d : DataW H} {p : List MemPlace} (hs : P.underlying t = some (.struct fs)) (he : P.underlying e = some (.int k)) (hone : oneCellFields P fs = true)
    (hC : P.cellsOf t = fs.size) (hall : ∀ f ∈ fs, f.type = e) (hv : Value.okWide P w r b0 t v) (h : DataW.Trod enc P w base spare held t v d p) :
    ∃ ns : List Int, ns.length = fs.size ∧ v = .agg (ns.map (Value.int k)).toArray ∧ ∀ n ∈ ns, (Lit.int k n).wf = true := by
  obtain ⟨cs, rfl, hsz⟩ := okWide_struct hs hv
  obtain ⟨fuel, hf⟩ := h
  obtain ⟨ys, n', hn', hy, hlen, hyl, hg⟩ := DataW.trod_struct hs hf
  have hcl : cs.toList.length = fs.size := by simp; omega
  obtain ⟨ns, hns, hw⟩ := list_of_ints (k := k) cs.toList (by
    intro x hx
    obtain ⟨j, hj, rfl⟩ := List.mem_iff_getElem.1 hx
    have hjf : j < fs.size := by omega
    have hfj : fs[j]? = some fs[j] := Array.getElem?_eq_getElem hjf
    obtain ⟨ho, hk⟩ := hone_of hone j fs[j] hfj
    have h1 := hg j fs[j] hfj
    rw [ho, hk, hall fs[j] (Array.getElem_mem hjf)] at h1
    have h2 : ((Value.agg cs).cells.toList.drop j).take 1 = [cs.toList[j]] := by
      simp only [Value.cells]
      rw [List.drop_eq_getElem_cons (by simpa using hj)]
      rfl
    rw [h2] at h1
    have h3 : ys[j]? = some (ys[j]'(by omega)) := List.getElem?_eq_getElem (by omega)
    rw [h3] at h1
    obtain ⟨n, e0, _, wn⟩ := DataW.trod_int he h1
    exact ⟨n, by simpa using e0, wn⟩)
  refine ⟨ns, ?_, ?_, hw⟩
  · have := congrArg List.length hns
    simp at this hcl
    omega
  · rw [← hns]

theorem okWide_array {r : Reach} {b0 n : Nat} {t e : TypeId} {v : Value} (ht : P.underlying t = some (.array n e)) (h : Value.okWide P w r b0 t v) : ∃ cs, v = .agg cs ∧ cs.size = P.cellsOf t := by
  simp only [Value.okWide, ht] at h
  obtain ⟨cs, h1, h2, _⟩ := h
  exact ⟨cs, h1, h2⟩

theorem open_int_array {k : IntKind} {r : Reach} {b0 m : Nat} {t e : TypeId} {v : Value} {d : DataW H} {p : List MemPlace} (hs : P.underlying t = some (.array m e)) (he : P.underlying e = some (.int k)) (hone : P.cellsOf e = 1)
    (hC : P.cellsOf t = m) (hv : Value.okWide P w r b0 t v) (h : DataW.Trod enc P w base spare held t v d p) :
    ∃ ns : List Int, ns.length = m ∧ v = .agg (ns.map (Value.int k)).toArray ∧ ∀ n ∈ ns, (Lit.int k n).wf = true := by
  obtain ⟨cs, rfl, hsz⟩ := okWide_array hs hv
  obtain ⟨fuel, hf⟩ := h
  obtain ⟨ys, n', hn', hy, hlen, hyl, hg⟩ := DataW.trod_array hs hf
  have hcl : cs.toList.length = m := by simp; omega
  obtain ⟨ns, hns, hw⟩ := list_of_ints (k := k) cs.toList (by
    intro x hx
    obtain ⟨j, hj, rfl⟩ := List.mem_iff_getElem.1 hx
    have h1 := hg j (by omega)
    rw [hone, Nat.mul_one] at h1
    have h2 : ((Value.agg cs).cells.toList.drop j).take 1 = [cs.toList[j]] := by
      simp only [Value.cells]
      rw [List.drop_eq_getElem_cons (by simpa using hj)]
      rfl
    rw [h2] at h1
    have h3 : ys[j]? = some (ys[j]'(by omega)) := List.getElem?_eq_getElem (by omega)
    rw [h3] at h1
    obtain ⟨n, e0, _, wn⟩ := DataW.trod_int he h1
    exact ⟨n, by simpa using e0, wn⟩)
  refine ⟨ns, ?_, ?_, hw⟩
  · have := congrArg List.length hns
    simp at this hcl
    omega
  · rw [← hns]
end
end Go
