/- Calls of the writer, read as pairs of how many bits and which number. -/
import Derived.Test.YthpbiakjkmhfeaaB2
namespace Go
open Go.ChangeShapes Go.WideShapes Go.ChangeAt Go.RowKit Go.Deep

def Nv (w : World) (A : Option Addr) (n : Nat) (l : List (Int × Nat)) : Prop :=
  l.length = n ∧ ∀ i, i < n → ∃ b off, A = some ⟨b, off, none⟩ ∧ b < w.heap.size ∧ w.cell? ⟨b, off + i * 4 + 1, none⟩ = some (.int .i64 (l.getD i (0, 0)).1) ∧ w.cell? ⟨b, off + i * 4 + 2, none⟩ = some (.int .u32 ((l.getD i (0, 0)).2 : Int))
theorem Nv.below {w w' : World} {A : Option Addr} {n : Nat} {l : List (Int × Nat)} (h : Nv w A n l) (hb : Below w.heap.size w w') : Nv w' A n l := by
  refine ⟨h.1, fun i hi => ?_⟩
  obtain ⟨b, off, e, h1, h2, h3⟩ := h.2 i hi
  exact ⟨b, off, e, Nat.lt_of_lt_of_le h1 hb.size, (hb.cell h1).trans h2, (hb.cell h1).trans h3⟩
section
variable {H : Type} {enc : TypeId × Value → H} {P : Program} {w : World} {base : Nat} {spare : Nat → Bool} {held : Bool}
theorem open_nv {t e u u2 : TypeId} {f0 f1 f2 f3 : Field} {v : Value} {d : DataW H} {p : List MemPlace} (ht : P.underlying t = some (.slice e)) (he : P.underlying e = some (.struct #[f0, f1, f2, f3])) (h1 : f1.offset = 1) (h2 : f2.offset = 2)
    (hu1 : f1.type = u) (hu2 : f2.type = u2) (hu : P.underlying u = some (.int .i64)) (hv2 : P.underlying u2 = some (.int .u32)) (ho : P.cellsOf u = 1) (ho2 : P.cellsOf u2 = 1) (hC : P.cellsOf e = 4)
    {r : Reach} {b0 : Nat} (hv : Value.okWide P w r b0 t v) (h : DataW.Trod enc P w base spare held t v d p) :
    ∃ (A : Option Addr) (n c : Nat) (l : List (Int × Nat)), v = .slice A n c ∧ Nv w A n l ∧ ∀ q ∈ l, q.2 < 4294967296 := by
  obtain ⟨A, len, cap, rfl⟩ := okWide_slice ht hv
  obtain ⟨fuel, hf⟩ := h
  rcases open_slice ht hf with ⟨hcs, _⟩ | ⟨a, len', cap', m', n, D, Pl, hcs, hb, hl, hm, hmm, hx, hel⟩
  · simp [Value.cells] at hcs
    obtain ⟨rfl, rfl, rfl⟩ := hcs
    exact ⟨none, 0, 0, [], rfl, ⟨rfl, fun i hi => absurd hi (by omega)⟩, fun q hq => by simp at hq⟩
  · simp [Value.cells] at hcs
    obtain ⟨rfl, rfl, rfl⟩ := hcs
    have hle : len ≤ m' := by rw [hmm]; split <;> omega
    have key : ∀ q, q < len → ∃ z : Int × Nat, (∃ c0, w.cell? (a.add (q * 4)) = some c0) ∧ (w.cell? (a.add (q * 4 + 1)) = some (.int .i64 z.1) ∧ w.cell? (a.add (q * 4 + 2)) = some (.int .u32 (z.2 : Int))) ∧ z.2 < 4294967296 := by
      intro q hq
      obtain ⟨cs', hc, htr⟩ := hel q (by omega)
      rw [hC] at hc
      obtain ⟨_, hcl, hat⟩ := World.cells?_some hc
      obtain ⟨xs, k, _, _, hlen, _, hfd⟩ := DataW.trod_struct he htr
      match cs', hcl with
      | [c0, c1, c2, c3], _ =>
        have g1 := hfd 1 f1 rfl
        have g2 := hfd 2 f2 rfl
        rw [h1, hu1, ho] at g1
        rw [h2, hu2, ho2] at g2
        have hxl : xs.length = 4 := by assumption
        rw [List.getElem?_eq_getElem (by omega)] at g1
        rw [List.getElem?_eq_getElem (by omega)] at g2
        obtain ⟨y, e1, _, _⟩ := DataW.trod_int hu g1
        obtain ⟨z, e2, _, wz⟩ := DataW.trod_int hv2 g2
        simp at e1 e2
        subst e1 e2
        have bz := bounds_u32 wz
        obtain ⟨z, rfl⟩ := Int.eq_ofNat_of_zero_le bz.1
        refine ⟨(y, z), ⟨c0, ?_⟩, ⟨?_, ?_⟩, by simp only; omega⟩
        · have h3 := hat 0 (by simp)
          rw [Go.Deep.add_add] at h3
          simpa using h3
        · have h3 := hat 1 (by simp)
          rw [Go.Deep.add_add] at h3
          simpa using h3
        · have h3 := hat 2 (by simp)
          rw [Go.Deep.add_add] at h3
          simpa using h3
    obtain ⟨F, hF⟩ : ∃ F : Nat → Int × Nat, ∀ q, q < len → (∃ c0, w.cell? (a.add (q * 4)) = some c0) ∧ (w.cell? (a.add (q * 4 + 1)) = some (.int .i64 (F q).1) ∧ w.cell? (a.add (q * 4 + 2)) = some (.int .u32 ((F q).2 : Int))) ∧ (F q).2 < 4294967296 := by
      classical
      exact ⟨fun q => if hq : q < len then (key q hq).choose else (0, 0), fun q hq => by
        simp only [hq, dite_true]
        exact (key q hq).choose_spec⟩
    clear key hel
    refine ⟨some a, len, cap, (List.range len).map F, rfl, ⟨by simp, fun i hi => ?_⟩, fun q hq => ?_⟩
    · obtain ⟨c0, hz1⟩ := (hF 0 (by omega)).1
      have hz1 : w.cell? a = some c0 := by simpa [Addr.add] using hz1
      obtain ⟨hbl, hsp⟩ := cell_somewhere hz1
      obtain ⟨b, off, sp⟩ := a
      simp only at hsp hbl
      subst hsp
      have hz := (hF i hi).2.1
      rw [addr_add, addr_add, ← Nat.add_assoc, ← Nat.add_assoc] at hz
      refine ⟨b, off, rfl, hbl, ?_⟩
      have e : ((List.range len).map F).getD i (0, 0) = F i := by
        rw [List.getD_eq_getElem?_getD, List.getElem?_map, List.getElem?_range hi]
        rfl
      rw [e]
      exact hz
    · obtain ⟨i, hi, rfl⟩ := List.mem_map.1 hq
      exact (hF i (List.mem_range.1 hi)).2.2
end
end Go
