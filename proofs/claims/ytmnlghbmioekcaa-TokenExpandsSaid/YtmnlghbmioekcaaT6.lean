/- Slices of tokens, read as lists. -/
import Derived.Test.YtmnlghbmioekcaaT5
namespace Go.Proofs.Ytmnlghbmioekcaa
open Go.ChangeShapes Go.WideShapes Go.ChangeAt Go.RowKit Go.Deep

section
variable {H : Type} {enc : TypeId × Value → H} {P : Program} {w : World} {base : Nat} {spare : Nat → Bool} {held : Bool}
theorem open_toks {t e u u2 : TypeId} {f0 f1 f2 : Field} {v : Value} {d : DataW H} {p : List MemPlace} (ht : P.underlying t = some (.slice e)) (he : P.underlying e = some (.struct #[f0, f1, f2])) (h0 : f0.offset = 0) (h1 : f1.offset = 1) (h2 : f2.offset = 2)
    (hu0 : f0.type = u2) (hu1 : f1.type = u) (hu2 : f2.type = u) (hu : P.underlying u = some (.int .i64)) (hv2 : P.underlying u2 = some (.int .u8)) (ho : P.cellsOf u = 1) (ho2 : P.cellsOf u2 = 1) (hC : P.cellsOf e = 3)
    {r : Reach} {b0 : Nat} (hv : Value.okWide P w r b0 t v) (h : DataW.Trod enc P w base spare held t v d p) :
    ∃ (A : Option Addr) (n c : Nat) (l : List Tok), v = .slice A n c ∧ Toks w (fun b => b < w.heap.size) A n l ∧ ∀ q ∈ l, q.1 < 256 := by
  obtain ⟨A, len, cap, rfl⟩ := okWide_slice ht hv
  obtain ⟨fuel, hf⟩ := h
  rcases open_slice ht hf with ⟨hcs, _⟩ | ⟨a, len', cap', m', n, D, Pl, hcs, hb, hl, hm, hmm, hx, hel⟩
  · simp [Value.cells] at hcs
    obtain ⟨rfl, rfl, rfl⟩ := hcs
    exact ⟨none, 0, 0, [], rfl, Lst.empty _ _ _ _, fun q hq => by simp at hq⟩
  · simp [Value.cells] at hcs
    obtain ⟨rfl, rfl, rfl⟩ := hcs
    have hle : len ≤ m' := by rw [hmm]; split <;> omega
    have key : ∀ q, q < len → ∃ z : Tok, (w.cell? (a.add (q * 3)) = some (.int .u8 (z.1 : Int)) ∧ w.cell? (a.add (q * 3 + 1)) = some (.int .i64 z.2.1) ∧ w.cell? (a.add (q * 3 + 2)) = some (.int .i64 z.2.2)) ∧ z.1 < 256 := by
      intro q hq
      obtain ⟨cs', hc, htr⟩ := hel q (by omega)
      rw [hC] at hc
      obtain ⟨_, hcl, hat⟩ := World.cells?_some hc
      obtain ⟨xs, k, _, _, hlen, _, hfd⟩ := DataW.trod_struct he htr
      match cs', hcl with
      | [c0, c1, c2], _ =>
        have g0 := hfd 0 f0 rfl
        have g1 := hfd 1 f1 rfl
        have g2 := hfd 2 f2 rfl
        rw [h0, hu0, ho2] at g0
        rw [h1, hu1, ho] at g1
        rw [h2, hu2, ho] at g2
        have hxl : xs.length = 3 := by assumption
        rw [List.getElem?_eq_getElem (by omega)] at g0
        rw [List.getElem?_eq_getElem (by omega)] at g1
        rw [List.getElem?_eq_getElem (by omega)] at g2
        obtain ⟨x, e0, _, wx⟩ := DataW.trod_int hv2 g0
        obtain ⟨y, e1, _, _⟩ := DataW.trod_int hu g1
        obtain ⟨z, e2, _, _⟩ := DataW.trod_int hu g2
        simp at e0 e1 e2
        subst e0 e1 e2
        have bx := bounds_u8 wx
        obtain ⟨x, rfl⟩ := Int.eq_ofNat_of_zero_le bx.1
        refine ⟨(x, y, z), ⟨?_, ?_, ?_⟩, by simp only; omega⟩
        · have h3 := hat 0 (by simp)
          rw [Go.Deep.add_add] at h3
          simpa using h3
        · have h3 := hat 1 (by simp)
          rw [Go.Deep.add_add] at h3
          simpa using h3
        · have h3 := hat 2 (by simp)
          rw [Go.Deep.add_add] at h3
          simpa using h3
    obtain ⟨F, hF⟩ : ∃ F : Nat → Tok, ∀ q, q < len → (w.cell? (a.add (q * 3)) = some (.int .u8 ((F q).1 : Int)) ∧ w.cell? (a.add (q * 3 + 1)) = some (.int .i64 (F q).2.1) ∧ w.cell? (a.add (q * 3 + 2)) = some (.int .i64 (F q).2.2)) ∧ (F q).1 < 256 := by
      classical
      exact ⟨fun q => if hq : q < len then (key q hq).choose else (0, 0, 0), fun q hq => by
        simp only [hq, dite_true]
        exact (key q hq).choose_spec⟩
    refine ⟨some a, len, cap, (List.range len).map F, rfl, ⟨by rw [flatT_len]; simp, fun h0 => ?_⟩, fun q hq => ?_⟩
    · clear key hel
      have hz1 : w.cell? a = some (.int .u8 ((F 0).1 : Int)) := by simpa [Addr.add] using (hF 0 h0).1.1
      obtain ⟨hbl, hsp⟩ := cell_somewhere hz1
      obtain ⟨b, off, sp⟩ := a
      simp only at hsp hbl
      subst hsp
      refine ⟨b, off, rfl, hbl, hbl, fun i v hi => ?_⟩
      rw [← addr_add]
      obtain ⟨g0, g1, g2⟩ := flatT_get ((List.range len).map F) (i / 3)
      have hlt : i / 3 < len := by
        have := (List.getElem?_eq_some_iff.1 hi).1
        rw [flatT_len] at this
        simp at this
        omega
      obtain ⟨⟨k0, k1, k2⟩, _⟩ := hF (i / 3) hlt
      rw [List.getElem?_map, List.getElem?_range hlt] at g0 g1 g2
      simp at g0 g1 g2
      rcases (show i % 3 = 0 ∨ i % 3 = 1 ∨ i % 3 = 2 by omega) with he2 | he2 | he2
      · rw [show i / 3 * 3 = i by omega] at g0 k0
        rw [hi] at g0
        injection g0 with g0
        rw [k0, g0]
      · rw [show i / 3 * 3 + 1 = i by omega] at g1 k1
        rw [hi] at g1
        injection g1 with g1
        rw [k1, g1]
      · rw [show i / 3 * 3 + 2 = i by omega] at g2 k2
        rw [hi] at g2
        injection g2 with g2
        rw [k2, g2]
    · obtain ⟨i, hi, rfl⟩ := List.mem_map.1 hq
      exact (hF i (by simpa using hi)).2
end
end Go.Proofs.Ytmnlghbmioekcaa
