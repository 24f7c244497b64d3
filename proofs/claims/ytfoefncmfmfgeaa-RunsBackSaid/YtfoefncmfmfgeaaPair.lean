/- Slices of pairs of integers, read as lists. -/
import Derived.Test.YtfoefncmfmfgeaaBytes
namespace Go
open Go.ChangeShapes Go.WideShapes Go.ChangeAt Go.RowKit Go.Deep

def flat2 (l : List (Int × Int)) : List Value := l.flatMap fun p => [Value.int .i64 p.1, Value.int .i64 p.2]
/-- The slice (A, n) reads as these pairs. -/
def Ps (w : World) (S : Nat → Prop) (A : Option Addr) (n : Nat) (l : List (Int × Int)) : Prop := Lst w S 2 A n (flat2 l)
theorem flat2_len (l : List (Int × Int)) : (flat2 l).length = l.length * 2 := by
  induction l with
  | nil => rfl
  | cons p l ih =>
    show (_ :: _ :: flat2 l).length = _
    simp [ih]
    omega
theorem flat2_get (l : List (Int × Int)) (i : Nat) : (flat2 l)[2 * i]? = (l[i]?).map (fun p => Value.int .i64 p.1) ∧ (flat2 l)[2 * i + 1]? = (l[i]?).map (fun p => Value.int .i64 p.2) := by
  induction l generalizing i with
  | nil => simp [flat2]
  | cons p l ih =>
    cases i with
    | zero => exact ⟨rfl, rfl⟩
    | succ i =>
      have h := ih i
      show (Value.int .i64 p.1 :: Value.int .i64 p.2 :: flat2 l)[2 * (i + 1)]? = _ ∧ (Value.int .i64 p.1 :: Value.int .i64 p.2 :: flat2 l)[2 * (i + 1) + 1]? = _
      rw [show 2 * (i + 1) = 2 * i + 1 + 1 by omega]
      simp only [List.getElem?_cons_succ]
      exact h
theorem flat2_append (a b : List (Int × Int)) : flat2 (a ++ b) = flat2 a ++ flat2 b := by simp [flat2]
theorem oneCell_flat2 (l : List (Int × Int)) : ∀ u ∈ flat2 l, u.oneCell' = true := by
  intro u hu
  simp only [flat2, List.mem_flatMap] at hu
  obtain ⟨p, _, hp⟩ := hu
  simp at hp
  rcases hp with rfl | rfl <;> rfl
section
variable {w w' : World} {S T : Nat → Prop} {n : Nat} {A : Option Addr} {l : List (Int × Int)}
theorem Ps.len (h : Ps w S A n l) : l.length = n := by have := Lst.len h; rw [flat2_len] at this; omega
theorem Ps.empty (w : World) (S : Nat → Prop) (A : Option Addr) : Ps w S A 0 [] := Lst.empty w S 2 A
theorem Ps.mono (h : Ps w S A n l) (hs : ∀ b, S b → T b) : Ps w T A n l := Lst.mono h hs
theorem Ps.keep (h : Ps w S A n l) (hz : w.heap.size ≤ w'.heap.size) (hk : ∀ b, b < w.heap.size → S b → w'.heap[b]? = w.heap[b]?) : Ps w' S A n l := Lst.keep h hz hk
theorem Ps.below (h : Ps w S A n l) (hb : Below w.heap.size w w') : Ps w' S A n l := Lst.below h hb
theorem Ps.alloc (h : Ps w S A n l) (o : Obj) : Ps (w.alloc o) S A n l := Lst.alloc h o
theorem Ps.and_lt (h : Ps w S A n l) : Ps w (fun b => S b ∧ b < w.heap.size) A n l := Lst.and_lt h
theorem Ps.at_ (h : Ps w S A n l) {i : Nat} (hi : i < n) : ∃ b off, A = some ⟨b, off, none⟩ ∧ b < w.heap.size ∧ S b ∧ w.cell? ⟨b, off + i * 2, none⟩ = some (.int .i64 (l.getD i (0, 0)).1) ∧ w.cell? ⟨b, off + i * 2 + 1, none⟩ = some (.int .i64 (l.getD i (0, 0)).2) := by
  obtain ⟨b, off, e, hl, hb, hc⟩ := h.2 (by omega)
  have hn := h.len
  have hg := flat2_get l i
  have hli : l[i]? = some (l.getD i (0, 0)) := by rw [List.getD_eq_getElem?_getD, List.getElem?_eq_getElem (by omega)]; rfl
  rw [hli] at hg
  rw [Nat.mul_comm 2 i] at hg
  exact ⟨b, off, e, hl, hb, hc _ _ hg.1, by rw [Nat.add_assoc]; exact hc _ _ hg.2⟩
theorem flat2_cut (l : List (Int × Int)) (i k : Nat) : flat2 ((l.drop i).take k) = ((flat2 l).drop (2 * i)).take (2 * k) := by
  induction l generalizing i k with
  | nil => simp [flat2]
  | cons p l ih =>
    show _ = ((Value.int .i64 p.1 :: Value.int .i64 p.2 :: flat2 l).drop _).take _
    cases i with
    | zero =>
      cases k with
      | zero => simp [flat2]
      | succ k =>
        have := ih 0 k
        simp only [List.drop_zero, Nat.mul_zero] at this ⊢
        rw [List.take_succ_cons, show 2 * (k + 1) = 2 * k + 1 + 1 by omega, List.take_succ_cons, List.take_succ_cons, ← this]
        rfl
    | succ i => rw [List.drop_succ_cons, ih, show 2 * (i + 1) = 2 * i + 1 + 1 by omega, List.drop_succ_cons, List.drop_succ_cons]
theorem Ps.cut {b off : Nat} (h : Ps w S (some ⟨b, off, none⟩) n l) {i k : Nat} (hk : i + k ≤ n) : Ps w S (some ⟨b, off + i * 2, none⟩) k ((l.drop i).take k) := by
  rw [Nat.mul_comm i 2]
  have hn := h.len
  refine ⟨by rw [flat2_len]; simp; omega, fun h0 => ?_⟩
  obtain ⟨b', off', e, hl, hb, hc⟩ := h.2 (by omega)
  injection e with e
  injection e with e1 e2
  subst e1 e2
  refine ⟨b, off + 2 * i, rfl, hl, hb, fun j v hj => ?_⟩
  rw [flat2_cut, List.getElem?_take] at hj
  split at hj
  · rw [List.getElem?_drop] at hj
    have := hc _ v hj
    rwa [← Nat.add_assoc] at this
  · cases hj
end
section
variable {H : Type} {enc : TypeId × Value → H} {P : Program} {w : World} {base : Nat} {spare : Nat → Bool} {held : Bool}
theorem open_pairs {t e u : TypeId} {f0 f1 : Field} {v : Value} {d : DataW H} {p : List MemPlace} (ht : P.underlying t = some (.slice e)) (he : P.underlying e = some (.struct #[f0, f1])) (h0 : f0.offset = 0) (h1 : f1.offset = 1)
    (hu0 : f0.type = u) (hu1 : f1.type = u) (hu : P.underlying u = some (.int .i64)) (ho : P.cellsOf u = 1) (hC : P.cellsOf e = 2)
    {r : Reach} {b0 : Nat} (hv : Value.okWide P w r b0 t v) (h : DataW.Trod enc P w base spare held t v d p) :
    ∃ (A : Option Addr) (n c : Nat) (l : List (Int × Int)), v = .slice A n c ∧ n ≤ c ∧ c ≤ 9223372036854775807 ∧ Ps w (fun b => b < w.heap.size) A n l := by
  obtain ⟨A, len, cap, rfl⟩ := okWide_slice ht hv
  obtain ⟨fuel, hf⟩ := h
  rcases open_slice ht hf with ⟨hcs, _⟩ | ⟨a, len', cap', m', n, D, Pl, hcs, hb, hl, hm, hmm, hx, hel⟩
  · simp [Value.cells] at hcs
    obtain ⟨rfl, rfl, rfl⟩ := hcs
    exact ⟨none, 0, 0, [], rfl, Nat.le_refl _, by omega, Ps.empty _ _ _⟩
  · simp [Value.cells] at hcs
    obtain ⟨rfl, rfl, rfl⟩ := hcs
    have hle : len ≤ m' := by rw [hmm]; split <;> omega
    have key : ∀ q, q < len → ∃ x y, w.cell? (a.add (2 * q)) = some (.int .i64 x) ∧ w.cell? (a.add (2 * q + 1)) = some (.int .i64 y) := by
      intro q hq
      obtain ⟨cs', hc, htr⟩ := hel q (by omega)
      rw [hC] at hc
      obtain ⟨_, hcl, hat⟩ := World.cells?_some hc
      obtain ⟨xs, k, _, _, hlen, _, hfd⟩ := DataW.trod_struct he htr
      match cs', hcl with
      | [c0, c1], _ =>
        have g0 := hfd 0 f0 rfl
        have g1 := hfd 1 f1 rfl
        rw [h0, hu0, ho] at g0
        rw [h1, hu1, ho] at g1
        have hxl : xs.length = 2 := by assumption
        rw [List.getElem?_eq_getElem (by omega)] at g0
        rw [List.getElem?_eq_getElem (by omega)] at g1
        obtain ⟨x, e0, _, _⟩ := DataW.trod_int hu g0
        obtain ⟨y, e1, _, _⟩ := DataW.trod_int hu g1
        simp at e0 e1
        subst e0 e1
        refine ⟨x, y, ?_, ?_⟩
        · have h3 := hat 0 (by simp)
          rw [Go.Deep.add_add] at h3
          simpa [Nat.mul_comm] using h3
        · have h3 := hat 1 (by simp)
          rw [Go.Deep.add_add] at h3
          simpa [Nat.mul_comm] using h3
    obtain ⟨F, G, hF⟩ : ∃ F G : Nat → Int, ∀ q, q < len → w.cell? (a.add (2 * q)) = some (.int .i64 (F q)) ∧ w.cell? (a.add (2 * q + 1)) = some (.int .i64 (G q)) := by
      classical
      exact ⟨fun q => if hq : q < len then (key q hq).choose else 0, fun q => if hq : q < len then (key q hq).choose_spec.choose else 0, fun q hq => by
        simp only [hq, dite_true]
        exact (key q hq).choose_spec.choose_spec⟩
    refine ⟨some a, len, cap, (List.range len).map fun q => (F q, G q), rfl, hl, by unfold maxLen at hm; exact hm, by rw [flat2_len]; simp, fun h0 => ?_⟩
    clear key hel
    have hz1 : w.cell? a = some (.int .i64 (F 0)) := by simpa [Addr.add] using (hF 0 h0).1
    obtain ⟨hbl, hsp⟩ := cell_somewhere hz1
    obtain ⟨b, off, sp⟩ := a
    simp only at hsp hbl
    subst hsp
    refine ⟨b, off, rfl, hbl, hbl, fun i v hi => ?_⟩
    rw [← addr_add]
    obtain ⟨g0, g1⟩ := flat2_get ((List.range len).map fun q => (F q, G q)) (i / 2)
    rcases Nat.mod_two_eq_zero_or_one i with he2 | he2
    · rw [show 2 * (i / 2) = i by omega, hi] at g0
      rcases Nat.lt_or_ge (i / 2) len with hlt | hge
      · rw [List.getElem?_map, List.getElem?_range hlt] at g0
        simp at g0
        have := (hF (i / 2) hlt).1
        rw [show 2 * (i / 2) = i by omega] at this
        rw [this, g0]
      · rw [List.getElem?_eq_none (by simpa using hge)] at g0
        cases g0
    · rw [show 2 * (i / 2) + 1 = i by omega, hi] at g1
      rcases Nat.lt_or_ge (i / 2) len with hlt | hge
      · rw [List.getElem?_map, List.getElem?_range hlt] at g1
        simp at g1
        have := (hF (i / 2) hlt).2
        rw [show 2 * (i / 2) + 1 = i by omega] at this
        rw [this, g1]
      · rw [List.getElem?_eq_none (by simpa using hge)] at g1
        cases g1
end
end Go
