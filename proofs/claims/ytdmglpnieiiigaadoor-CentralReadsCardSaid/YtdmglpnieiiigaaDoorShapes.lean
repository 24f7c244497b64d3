/- Arguments that are structs or arrays of integers, opened whatever their number. -/
import Derived.ProofKit
import Derived.OpenShut
import Derived.Deep.Fields
import Derived.Deep.Slices
namespace Go
open Go.ChangeShapes Go.WideShapes Go.ChangeAt Go.RowKit Go.Deep

section
variable {H : Type} {enc : TypeId × Value → H} {P : Program} {w : World} {base : Nat} {spare : Nat → Bool} {held : Bool}

theorem list_of_ints {k : IntKind} (l : List Value) (h : ∀ x ∈ l, ∃ n, x = .int k n ∧ (Lit.int k n).wf = true) : ∃ ns : List Int, l = ns.map (Value.int k) ∧ ∀ n ∈ ns, (Lit.int k n).wf = true := by
  induction l with
  | nil => exact ⟨[], rfl, fun n hn => by cases hn⟩
  | cons x l ih =>
    obtain ⟨n, rfl, hw⟩ := h x (by simp)
    obtain ⟨ns, rfl, hws⟩ := ih fun y hy => h y (by simp [hy])
    exact ⟨n :: ns, rfl, fun m hm => by
      rcases List.mem_cons.1 hm with rfl | hm
      · exact hw
      · exact hws m hm⟩

/-- What is read of arguments is read as before, behind a call that only made memory. -/
theorem below_all (hl : laidOutB P = true) {W W' : World} (hb : Below W.heap.size W W') : ∀ {ts : List TypeId} {vs : List Value} {ds : List (DataW H)} {p : List MemPlace},
    (∀ t ∈ ts, P.readableRec t = true ∧ t < P.types.size) → DataW.TrodAll enc P W 0 (fun _ => true) true ts vs ds p → DataW.TrodAll enc P W' 0 (fun b => decide (b < W.heap.size)) true ts vs ds p
  | [], [], [], _, _, h => h
  | [], _ :: _, _, _, _, h => h.elim
  | [], [], _ :: _, _, _, h => h.elim
  | _ :: _, [], _, _, _, h => h.elim
  | _ :: _, _ :: _, [], _, _, h => h.elim
  | t :: ts, v :: vs, d :: ds, p, hr, h => by
    obtain ⟨p1, p2, h1, h2, rfl⟩ := h
    have hlt : ∀ x ∈ p1, x.block < W.heap.size := by
      obtain ⟨m, hm⟩ := h1
      exact DataW.trod_lt m _ _ _ hm
    exact ⟨p1, p2, Below.trod hl (hr t (by simp)).1 (hr t (by simp)).2 h1 hb hlt, below_all hl hb (fun t ht => hr t (by simp [ht])) h2, rfl⟩

theorem open_int_struct {k : IntKind} {r : Reach} {b0 : Nat} {t e : TypeId} {fs : Array Field} {v : Value} {d : DataW H} {p : List MemPlace} (hs : P.underlying t = some (.struct fs)) (he : P.underlying e = some (.int k)) (hone : oneCellFields P fs = true)
    (hC : P.cellsOf t = fs.size) (hall : ∀ f ∈ fs, f.type = e) (hv : Value.okWide P w r b0 t v) (h : DataW.Trod enc P w base spare held t v d p) :
    ∃ ns : List Int, ns.length = fs.size ∧ v = .agg (ns.map (Value.int k)).toArray ∧ ∀ n ∈ ns, (Lit.int k n).wf = true := by
  obtain ⟨cs, rfl, hsz⟩ := okWide_struct hs hv
  obtain ⟨fuel, hf⟩ := h
  obtain ⟨ys, n', hn', hy, hlen, hyl, hg⟩ := DataW.trod_struct hs hf
  have hcl : cs.toList.length = fs.size := by simp; omega
  obtain ⟨ns, hns, hw⟩ := list_of_ints (k := k) cs.toList (by
    intro x hx
    obtain ⟨j, hj, rfl⟩ := List.mem_iff_getElem.1 hx
    have hjf : j < fs.size := by omega
    have hfj : fs[j]? = some fs[j] := Array.getElem?_eq_getElem hjf
    obtain ⟨ho, hk⟩ := hone_of hone j fs[j] hfj
    have h1 := hg j fs[j] hfj
    rw [ho, hk, hall fs[j] (Array.getElem_mem hjf)] at h1
    have h2 : ((Value.agg cs).cells.toList.drop j).take 1 = [cs.toList[j]] := by
      simp only [Value.cells]
      rw [List.drop_eq_getElem_cons (by simpa using hj)]
      rfl
    rw [h2] at h1
    have h3 : ys[j]? = some (ys[j]'(by omega)) := List.getElem?_eq_getElem (by omega)
    rw [h3] at h1
    obtain ⟨n, e0, _, wn⟩ := DataW.trod_int he h1
    exact ⟨n, by simpa using e0, wn⟩)
  refine ⟨ns, ?_, ?_, hw⟩
  · have := congrArg List.length hns
    simp at this hcl
    omega
  · rw [← hns]

theorem okWide_array {r : Reach} {b0 n : Nat} {t e : TypeId} {v : Value} (ht : P.underlying t = some (.array n e)) (h : Value.okWide P w r b0 t v) : ∃ cs, v = .agg cs ∧ cs.size = P.cellsOf t := by
  simp only [Value.okWide, ht] at h
  obtain ⟨cs, h1, h2, _⟩ := h
  exact ⟨cs, h1, h2⟩

theorem open_int_array {k : IntKind} {r : Reach} {b0 m : Nat} {t e : TypeId} {v : Value} {d : DataW H} {p : List MemPlace} (hs : P.underlying t = some (.array m e)) (he : P.underlying e = some (.int k)) (hone : P.cellsOf e = 1)
    (hC : P.cellsOf t = m) (hv : Value.okWide P w r b0 t v) (h : DataW.Trod enc P w base spare held t v d p) :
    ∃ ns : List Int, ns.length = m ∧ v = .agg (ns.map (Value.int k)).toArray ∧ ∀ n ∈ ns, (Lit.int k n).wf = true := by
  obtain ⟨cs, rfl, hsz⟩ := okWide_array hs hv
  obtain ⟨fuel, hf⟩ := h
  obtain ⟨ys, n', hn', hy, hlen, hyl, hg⟩ := DataW.trod_array hs hf
  have hcl : cs.toList.length = m := by simp; omega
  obtain ⟨ns, hns, hw⟩ := list_of_ints (k := k) cs.toList (by
    intro x hx
    obtain ⟨j, hj, rfl⟩ := List.mem_iff_getElem.1 hx
    have h1 := hg j (by omega)
    rw [hone, Nat.mul_one] at h1
    have h2 : ((Value.agg cs).cells.toList.drop j).take 1 = [cs.toList[j]] := by
      simp only [Value.cells]
      rw [List.drop_eq_getElem_cons (by simpa using hj)]
      rfl
    rw [h2] at h1
    have h3 : ys[j]? = some (ys[j]'(by omega)) := List.getElem?_eq_getElem (by omega)
    rw [h3] at h1
    obtain ⟨n, e0, _, wn⟩ := DataW.trod_int he h1
    exact ⟨n, by simpa using e0, wn⟩)
  refine ⟨ns, ?_, ?_, hw⟩
  · have := congrArg List.length hns
    simp at this hcl
    omega
  · rw [← hns]

/-- A slice of rows of m integers, as it lies. -/
def IntRows (w : World) (A : Option Addr) (len m : Nat) (k : IntKind) (F : Nat → Nat → Int) : Prop :=
  0 < len → ∃ b off, A = some ⟨b, off, none⟩ ∧ b < w.heap.size ∧ ∀ i, i < len → ∀ j, j < m → w.cell? ⟨b, off + i * m + j, none⟩ = some (.int k (F i j)) ∧ (Lit.int k (F i j)).wf = true
/-- A slice of integers, as it lies. -/
def IntsAt (w : World) (A : Option Addr) (len : Nat) (k : IntKind) (f : Nat → Int) : Prop :=
  0 < len → ∃ b off, A = some ⟨b, off, none⟩ ∧ b < w.heap.size ∧ ∀ i, i < len → w.cell? ⟨b, off + i, none⟩ = some (.int k (f i)) ∧ (Lit.int k (f i)).wf = true

theorem cell_somewhere {w : World} {a : Addr} {v : Value} (h : w.cell? a = some v) : a.block < w.heap.size ∧ a.spot = none := by
  unfold World.cell? at h
  split at h
  · rename_i c t f hb
    refine ⟨(Array.getElem?_eq_some_iff.1 hb).1, ?_⟩
    cases hs : a.spot with
    | none => rfl
    | some s => simp [hs] at h
  · cases h

theorem open_int_rows {k : IntKind} {r : Reach} {b0 m : Nat} {t e i : TypeId} {v : Value} {d : DataW H} {p : List MemPlace} (ht : P.underlying t = some (.slice e)) (he : P.underlying e = some (.array m i)) (hi : P.underlying i = some (.int k)) (hone : P.cellsOf i = 1)
    (hC : P.cellsOf e = m) (hm0 : 0 < m) (hv : Value.okWide P w r b0 t v) (h : DataW.Trod enc P w base spare held t v d p) :
    ∃ (A : Option Addr) (len cap : Nat) (F : Nat → Nat → Int), v = .slice A len cap ∧ len ≤ maxLen ∧ IntRows w A len m k F := by
  obtain ⟨A, len, cap, rfl⟩ := okWide_slice ht hv
  obtain ⟨fuel, hf⟩ := h
  rcases open_slice ht hf with ⟨hcs, _⟩ | ⟨a, len', cap', m', n, D, Pl, hcs, hb, hl, hm, hmm, hx, hel⟩
  · simp [Value.cells] at hcs
    obtain ⟨rfl, rfl, rfl⟩ := hcs
    exact ⟨none, 0, 0, fun _ _ => 0, rfl, Nat.zero_le _, fun h => absurd h (by omega)⟩
  · simp [Value.cells] at hcs
    obtain ⟨rfl, rfl, rfl⟩ := hcs
    have hle : len ≤ m' := by rw [hmm]; split <;> omega
    have key : ∀ q, q < len → ∀ j, j < m → ∃ z, w.cell? (a.add (q * m + j)) = some (.int k z) ∧ (Lit.int k z).wf = true := by
      intro q hq j hj
      obtain ⟨cs', hc, htr⟩ := hel q (by omega)
      rw [hC] at hc
      obtain ⟨_, hcl, hat⟩ := World.cells?_some hc
      obtain ⟨ys, n', hn', hy, hlen, hyl, hg⟩ := DataW.trod_array he htr
      have h1 := hg j (by omega)
      rw [hone, Nat.mul_one] at h1
      have h2 : (cs'.drop j).take 1 = [cs'[j]'(by omega)] := by
        rw [List.drop_eq_getElem_cons (by omega)]
        rfl
      rw [h2, List.getElem?_eq_getElem (show j < ys.length by omega)] at h1
      obtain ⟨z, e0, _, wz⟩ := DataW.trod_int hi h1
      refine ⟨z, ?_, wz⟩
      have h3 := hat j (by omega)
      rw [Go.Deep.add_add, List.getElem?_eq_getElem (show j < cs'.length by omega)] at h3
      rw [h3]
      simpa using e0
    obtain ⟨F, hF⟩ : ∃ F : Nat → Nat → Int, ∀ q, q < len → ∀ j, j < m → w.cell? (a.add (q * m + j)) = some (.int k (F q j)) ∧ (Lit.int k (F q j)).wf = true := by
      classical
      exact ⟨fun q j => if hq : q < len ∧ j < m then (key q hq.1 j hq.2).choose else 0, fun q hq j hj => by
        simp only [hq, hj, and_self, dite_true]
        exact (key q hq j hj).choose_spec⟩
    refine ⟨some a, len, cap, F, rfl, by omega, fun h0 => ?_⟩
    clear key hel
    have hz1 : w.cell? a = some (.int k (F 0 0)) := by simpa [Addr.add] using (hF 0 h0 0 hm0).1
    obtain ⟨hbl, hsp⟩ := cell_somewhere hz1
    obtain ⟨b, off, sp⟩ := a
    simp only at hsp hbl
    subst hsp
    refine ⟨b, off, rfl, hbl, fun q hq j hj => ?_⟩
    obtain ⟨h1, h2⟩ := hF q hq j hj
    refine ⟨?_, h2⟩
    by_cases hz : q * m + j = 0
    · simp only [Addr.add, hz, if_true] at h1
      rw [show off + q * m + j = off by omega]
      exact h1
    · simp only [Addr.add, hz, if_false] at h1
      rw [show off + q * m + j = off + (q * m + j) by omega]
      exact h1

theorem open_int_slice {k : IntKind} {r : Reach} {b0 : Nat} {t e : TypeId} {v : Value} {d : DataW H} {p : List MemPlace} (ht : P.underlying t = some (.slice e)) (he : P.underlying e = some (.int k)) (hone : P.cellsOf e = 1)
    (hv : Value.okWide P w r b0 t v) (h : DataW.Trod enc P w base spare held t v d p) :
    ∃ (A : Option Addr) (len cap : Nat) (f : Nat → Int), v = .slice A len cap ∧ len ≤ cap ∧ cap ≤ maxLen ∧ IntsAt w A len k f := by
  obtain ⟨A, len, cap, rfl⟩ := okWide_slice ht hv
  obtain ⟨fuel, hf⟩ := h
  rcases open_slice ht hf with ⟨hcs, _⟩ | ⟨a, len', cap', m', n, D, Pl, hcs, hb, hl, hm, hmm, hx, hel⟩
  · simp [Value.cells] at hcs
    obtain ⟨rfl, rfl, rfl⟩ := hcs
    exact ⟨none, 0, 0, fun _ => 0, rfl, Nat.le_refl _, Nat.zero_le _, fun h => absurd h (by omega)⟩
  · simp [Value.cells] at hcs
    obtain ⟨rfl, rfl, rfl⟩ := hcs
    have hle : len ≤ m' := by rw [hmm]; split <;> omega
    have key : ∀ q, q < len → ∃ z, w.cell? (a.add q) = some (.int k z) ∧ (Lit.int k z).wf = true := by
      intro q hq
      obtain ⟨cs', hc, htr⟩ := hel q (by omega)
      rw [hone, Nat.mul_one] at hc
      obtain ⟨_, hcl, hat⟩ := World.cells?_some hc
      obtain ⟨z, e0, _, wz⟩ := DataW.trod_int he htr
      refine ⟨z, ?_, wz⟩
      have h3 := hat 0 (by omega)
      rw [Go.Deep.add_add, e0] at h3
      simpa using h3
    obtain ⟨F, hF⟩ : ∃ F : Nat → Int, ∀ q, q < len → w.cell? (a.add q) = some (.int k (F q)) ∧ (Lit.int k (F q)).wf = true := by
      classical
      exact ⟨fun q => if hq : q < len then (key q hq).choose else 0, fun q hq => by
        simp only [hq, dite_true]
        exact (key q hq).choose_spec⟩
    refine ⟨some a, len, cap, F, rfl, hl, hm, fun h0 => ?_⟩
    clear key hel
    have hz1 : w.cell? a = some (.int k (F 0)) := by simpa [Addr.add] using (hF 0 h0).1
    obtain ⟨hbl, hsp⟩ := cell_somewhere hz1
    obtain ⟨b, off, sp⟩ := a
    simp only at hsp hbl
    subst hsp
    refine ⟨b, off, rfl, hbl, fun q hq => ?_⟩
    obtain ⟨h1, h2⟩ := hF q hq
    refine ⟨?_, h2⟩
    by_cases hz : q = 0
    · simp only [Addr.add, hz, if_true] at h1
      subst hz
      exact h1
    · simp only [Addr.add, hz, if_false] at h1
      exact h1
end
end Go
