/- Calls of the writer, read whole. -/
import Derived.Test.YthpbiakjkmhfeaaP5
namespace Go
open Go.ChangeShapes Go.WideShapes Go.ChangeAt Go.RowKit Go.Deep

/-- A call: its kind, how many bits, which number, which bytes. -/
abbrev Wop := Int × Int × Nat × List UInt8
def Ops (w : World) (A : Option Addr) (n : Nat) (l : List Wop) : Prop :=
  l.length = n ∧ ∀ i, i < n → ∃ b off B d, A = some ⟨b, off, none⟩ ∧ b < w.heap.size ∧ w.cell? ⟨b, off + i * 4, none⟩ = some (.int .i64 (l.getD i (0, 0, 0, [])).1) ∧ w.cell? ⟨b, off + i * 4 + 1, none⟩ = some (.int .i64 (l.getD i (0, 0, 0, [])).2.1) ∧
    w.cell? ⟨b, off + i * 4 + 2, none⟩ = some (.int .u32 ((l.getD i (0, 0, 0, [])).2.2.1 : Int)) ∧ w.cell? ⟨b, off + i * 4 + 3, none⟩ = some (.slice B (l.getD i (0, 0, 0, [])).2.2.2.length d) ∧
    Bs w (fun k => k < w.heap.size) B (l.getD i (0, 0, 0, [])).2.2.2.length (l.getD i (0, 0, 0, [])).2.2.2
section
variable {H : Type} {enc : TypeId × Value → H} {P : Program} {w : World} {base : Nat} {spare : Nat → Bool} {held : Bool}
theorem bytes_at {t e : TypeId} {fuel : Nat} {cs : List Value} {x : DataW H × List MemPlace} (ht : P.underlying t = some (.slice e)) (he : P.underlying e = some (.int .u8)) (hone : P.cellsOf e = 1) (h : DataW.trod enc P w base spare held fuel t cs = some x) :
    ∃ (A : Option Addr) (c : Nat) (bs : List UInt8), cs = [.slice A bs.length c] ∧ Bs w (fun k => k < w.heap.size) A bs.length bs := by
  rcases open_slice ht h with ⟨hcs, _⟩ | ⟨a, len, cap, m', n, D, Pl, hcs, hb, hl, hm, hmm, hx, hel⟩
  · exact ⟨none, 0, [], hcs, Bs.empty _ _ _⟩
  · have hle : len ≤ m' := by rw [hmm]; split <;> omega
    have key : ∀ q, q < len → ∃ z, w.cell? (a.add q) = some (.int .u8 z) ∧ (Lit.int .u8 z).wf = true := by
      intro q hq
      obtain ⟨cs', hc, htr⟩ := hel q (by omega)
      rw [hone, Nat.mul_one] at hc
      obtain ⟨_, hcl, hat⟩ := World.cells?_some hc
      obtain ⟨z, e0, _, wz⟩ := DataW.trod_int he htr
      refine ⟨z, ?_, wz⟩
      have h3 := hat 0 (by omega)
      rw [Go.Deep.add_add, e0] at h3
      simpa using h3
    obtain ⟨F, hF⟩ : ∃ F : Nat → Int, ∀ q, q < len → w.cell? (a.add q) = some (.int .u8 (F q)) ∧ (Lit.int .u8 (F q)).wf = true := by
      classical
      exact ⟨fun q => if hq : q < len then (key q hq).choose else 0, fun q hq => by
        simp only [hq, dite_true]
        exact (key q hq).choose_spec⟩
    have hI : IntsAt w (some a) len .u8 F := by
      intro h0
      have hz1 : w.cell? a = some (.int .u8 (F 0)) := by simpa [Addr.add] using (hF 0 h0).1
      obtain ⟨hbl, hsp⟩ := cell_somewhere hz1
      obtain ⟨b, off, sp⟩ := a
      simp only at hsp hbl
      subst hsp
      refine ⟨b, off, rfl, hbl, fun q hq => ?_⟩
      obtain ⟨h1, h2⟩ := hF q hq
      refine ⟨?_, h2⟩
      rw [addr_add] at h1
      exact h1
    obtain ⟨ns, hnl, h4, h5⟩ := hI.lst
    obtain ⟨bs, hbs⟩ := bytes_of ns h5
    rw [hbs] at h4
    have hB : Bs w (fun k => k < w.heap.size) (some a) len bs := h4
    have hlen := hB.len
    subst hlen
    exact ⟨some a, cap, bs, hcs, hB⟩
theorem open_ops {t e u u2 u3 e3 : TypeId} {f0 f1 f2 f3 : Field} {v : Value} {d : DataW H} {p : List MemPlace} (ht : P.underlying t = some (.slice e)) (he : P.underlying e = some (.struct #[f0, f1, f2, f3])) (h0 : f0.offset = 0) (h1 : f1.offset = 1) (h2 : f2.offset = 2) (h3 : f3.offset = 3)
    (hu0 : f0.type = u) (hu1 : f1.type = u) (hu2 : f2.type = u2) (hu3 : f3.type = u3) (hu : P.underlying u = some (.int .i64)) (hv2 : P.underlying u2 = some (.int .u32)) (hv3 : P.underlying u3 = some (.slice e3)) (hw3 : P.underlying e3 = some (.int .u8))
    (ho : P.cellsOf u = 1) (ho2 : P.cellsOf u2 = 1) (ho3 : P.cellsOf u3 = 1) (hoe : P.cellsOf e3 = 1) (hC : P.cellsOf e = 4)
    {r : Reach} {b0 : Nat} (hv : Value.okWide P w r b0 t v) (h : DataW.Trod enc P w base spare held t v d p) :
    ∃ (A : Option Addr) (n c : Nat) (l : List Wop), v = .slice A n c ∧ Ops w A n l ∧ ∀ q ∈ l, q.2.2.1 < 4294967296 := by
  obtain ⟨A, len, cap, rfl⟩ := okWide_slice ht hv
  obtain ⟨fuel, hf⟩ := h
  rcases open_slice ht hf with ⟨hcs, _⟩ | ⟨a, len', cap', m', n, D, Pl, hcs, hb, hl, hm, hmm, hx, hel⟩
  · simp [Value.cells] at hcs
    obtain ⟨rfl, rfl, rfl⟩ := hcs
    exact ⟨none, 0, 0, [], rfl, ⟨rfl, fun i hi => absurd hi (by omega)⟩, fun q hq => by simp at hq⟩
  · simp [Value.cells] at hcs
    obtain ⟨rfl, rfl, rfl⟩ := hcs
    have hle : len ≤ m' := by rw [hmm]; split <;> omega
    have key : ∀ q, q < len → ∃ z : Wop, ∃ (B : Option Addr) (dd : Nat), w.cell? (a.add (q * 4)) = some (.int .i64 z.1) ∧ w.cell? (a.add (q * 4 + 1)) = some (.int .i64 z.2.1) ∧ w.cell? (a.add (q * 4 + 2)) = some (.int .u32 (z.2.2.1 : Int)) ∧ w.cell? (a.add (q * 4 + 3)) = some (.slice B z.2.2.2.length dd) ∧
        Bs w (fun k => k < w.heap.size) B z.2.2.2.length z.2.2.2 ∧ z.2.2.1 < 4294967296 := by
      intro q hq
      obtain ⟨cs', hc, htr⟩ := hel q (by omega)
      rw [hC] at hc
      obtain ⟨_, hcl, hat⟩ := World.cells?_some hc
      obtain ⟨xs, k, _, _, hlen, _, hfd⟩ := DataW.trod_struct he htr
      match cs', hcl with
      | [c0, c1, c2, c3], _ =>
        have g0 := hfd 0 f0 rfl
        have g1 := hfd 1 f1 rfl
        have g2 := hfd 2 f2 rfl
        have g3 := hfd 3 f3 rfl
        rw [h0, hu0, ho] at g0
        rw [h1, hu1, ho] at g1
        rw [h2, hu2, ho2] at g2
        rw [h3, hu3, ho3] at g3
        have hxl : xs.length = 4 := by assumption
        rw [List.getElem?_eq_getElem (by omega)] at g0
        rw [List.getElem?_eq_getElem (by omega)] at g1
        rw [List.getElem?_eq_getElem (by omega)] at g2
        rw [List.getElem?_eq_getElem (by omega)] at g3
        obtain ⟨x, e0, _, _⟩ := DataW.trod_int hu g0
        obtain ⟨y, e1, _, _⟩ := DataW.trod_int hu g1
        obtain ⟨z, e2, _, wz⟩ := DataW.trod_int hv2 g2
        obtain ⟨B, dd, bs, e3', hBs⟩ := bytes_at hv3 hw3 hoe g3
        simp at e0 e1 e2 e3'
        subst e0 e1 e2 e3'
        have bz := bounds_u32 wz
        obtain ⟨z, rfl⟩ := Int.eq_ofNat_of_zero_le bz.1
        refine ⟨(x, y, z, bs), B, dd, ?_, ?_, ?_, ?_, hBs, by simp only; omega⟩
        · have h3 := hat 0 (by simp)
          rw [Go.Deep.add_add] at h3
          simpa using h3
        · have h3 := hat 1 (by simp)
          rw [Go.Deep.add_add] at h3
          simpa using h3
        · have h3 := hat 2 (by simp)
          rw [Go.Deep.add_add] at h3
          simpa using h3
        · have h3 := hat 3 (by simp)
          rw [Go.Deep.add_add] at h3
          simpa using h3
    obtain ⟨F, hF⟩ : ∃ F : Nat → Wop, ∀ q, q < len → ∃ (B : Option Addr) (dd : Nat), w.cell? (a.add (q * 4)) = some (.int .i64 (F q).1) ∧ w.cell? (a.add (q * 4 + 1)) = some (.int .i64 (F q).2.1) ∧ w.cell? (a.add (q * 4 + 2)) = some (.int .u32 ((F q).2.2.1 : Int)) ∧ w.cell? (a.add (q * 4 + 3)) = some (.slice B (F q).2.2.2.length dd) ∧
        Bs w (fun k => k < w.heap.size) B (F q).2.2.2.length (F q).2.2.2 ∧ (F q).2.2.1 < 4294967296 := by
      classical
      exact ⟨fun q => if hq : q < len then (key q hq).choose else (0, 0, 0, []), fun q hq => by
        simp only [hq, dite_true]
        exact (key q hq).choose_spec⟩
    clear key hel
    refine ⟨some a, len, cap, (List.range len).map F, rfl, ⟨by simp, fun i hi => ?_⟩, fun q hq => ?_⟩
    · obtain ⟨_, _, hz1, _⟩ := hF 0 (by omega)
      have hz1 : w.cell? a = some (.int .i64 (F 0).1) := by simpa [Addr.add] using hz1
      obtain ⟨hbl, hsp⟩ := cell_somewhere hz1
      obtain ⟨b, off, sp⟩ := a
      simp only at hsp hbl
      subst hsp
      obtain ⟨B, dd, k0, k1, k2, k3, k4, _⟩ := hF i hi
      rw [addr_add] at k0 k1 k2 k3
      rw [← Nat.add_assoc] at k1 k2 k3
      have e : ((List.range len).map F).getD i (0, 0, 0, []) = F i := by
        rw [List.getD_eq_getElem?_getD, List.getElem?_map, List.getElem?_range hi]
        rfl
      rw [e]
      exact ⟨b, off, B, dd, rfl, hbl, k0, k1, k2, k3, k4⟩
    · obtain ⟨i, hi, rfl⟩ := List.mem_map.1 hq
      obtain ⟨_, _, _, _, _, _, _, k5⟩ := hF i (List.mem_range.1 hi)
      exact k5
end
theorem Ops.below {w w' : World} {A : Option Addr} {n : Nat} {l : List Wop} (h : Ops w A n l) (hb : Below w.heap.size w w') : Ops w' A n l := by
  refine ⟨h.1, fun i hi => ?_⟩
  obtain ⟨b, off, B, d, e, h1, h2, h3, h4, h5, h6⟩ := h.2 i hi
  exact ⟨b, off, B, d, e, Nat.lt_of_lt_of_le h1 hb.size, (hb.cell h1).trans h2, (hb.cell h1).trans h3, (hb.cell h1).trans h4, (hb.cell h1).trans h5, (h6.below hb).mono (fun k hk => Nat.lt_of_lt_of_le hk hb.size)⟩
end Go
