/- Slices of bytes, read as lists. -/
import Derived.Test.YtdmglpnieiiigaaDoorList
import Derived.Test.YtdmglpnieiiigaaDoorShapes
import Derived.Test.YtdmglpnieiiigaaDoorArgs
import Derived.Laws.IdiomStrings
import Derived.Lib.SliceRun
import Derived.Laws.CopyOwn
namespace Go
open Go.ChangeShapes Go.WideShapes Go.ChangeAt Go.RowKit Go.Deep

abbrev bv (c : UInt8) : Value := .int .u8 (c.toNat : Int)
/-- The slice (A, n) reads as these bytes; they lie in a block that S lets. -/
def Bs (w : World) (S : Nat → Prop) (A : Option Addr) (n : Nat) (bs : List UInt8) : Prop := Lst w S 1 A n (bs.map bv)

theorem byte_bd (c : UInt8) : 0 ≤ (c.toNat : Int) ∧ (c.toNat : Int) ≤ 255 := by
  have := c.toNat_lt
  omega
section
variable {w w' : World} {S T : Nat → Prop} {n : Nat} {A : Option Addr} {bs : List UInt8}
theorem Bs.len (h : Bs w S A n bs) : bs.length = n := by have := Lst.len h; simpa using this
theorem Bs.empty (w : World) (S : Nat → Prop) (A : Option Addr) : Bs w S A 0 [] := Lst.empty w S 1 A
theorem Bs.mono (h : Bs w S A n bs) (hs : ∀ b, S b → T b) : Bs w T A n bs := Lst.mono h hs
theorem Bs.below (h : Bs w S A n bs) (hb : Below w.heap.size w w') : Bs w' S A n bs := Lst.below h hb
theorem Bs.drewN (h : Bs w S A n bs) (k : Nat) : Bs (w.drewN k) S A n bs := h
theorem Bs.alloc (h : Bs w S A n bs) (o : Obj) : Bs (w.alloc o) S A n bs := Lst.alloc h o
theorem Bs.put (h : Bs w S A n bs) {p : Addr} (u : Value) (hp : ∀ b, S b → b ≠ p.block) : Bs (w.setCell p u) S A n bs := Lst.put h u hp
theorem Bs.grown (h : Bs w S A n bs) {row : Option Nat} (hg : w.grownBy w' row) (hr : ∀ b, b < w.heap.size → S b → some b ≠ row) : Bs w' S A n bs := Lst.grown h hg hr
theorem Bs.keep (h : Bs w S A n bs) (hz : w.heap.size ≤ w'.heap.size) (hk : ∀ b, b < w.heap.size → S b → w'.heap[b]? = w.heap[b]?) : Bs w' S A n bs := Lst.keep h hz hk
theorem Bs.and_lt (h : Bs w S A n bs) : Bs w (fun b => S b ∧ b < w.heap.size) A n bs := Lst.and_lt h
theorem Bs.of_own {base : Nat} {e : TypeId} {c : Nat} (h : w.ownsRow base e 1 (.slice A n c) n (bs.map bv)) : Bs w (fun b => base ≤ b) A n bs := Lst.of_own h
theorem Bs.at_ (h : Bs w S A n bs) {i : Nat} (hi : i < n) : ∃ b off, A = some ⟨b, off, none⟩ ∧ b < w.heap.size ∧ S b ∧ w.cell? ⟨b, off + i, none⟩ = some (bv (bs.getD i 0)) := by
  obtain ⟨b, off, e, hl, hb, hc⟩ := h.2 (by omega)
  have hn := h.len
  refine ⟨b, off, e, hl, hb, hc i _ ?_⟩
  rw [List.getElem?_map, List.getElem?_eq_getElem (by omega), List.getD_eq_getElem?_getD, List.getElem?_eq_getElem (by omega)]
  rfl
theorem Bs.take (h : Bs w S A n bs) {k : Nat} (hk : k ≤ n) : Bs w S A k (bs.take k) := by
  have hn := h.len
  refine ⟨by simp; omega, fun h0 => ?_⟩
  obtain ⟨b, off, e, hl, hb, hc⟩ := h.2 (by omega)
  refine ⟨b, off, e, hl, hb, fun i v hi => hc i v ?_⟩
  rw [List.map_take, List.getElem?_take] at hi
  split at hi
  · exact hi
  · cases hi
theorem Bs.drop {b off : Nat} (h : Bs w S (some ⟨b, off, none⟩) n bs) {k : Nat} (hk : k ≤ n) : Bs w S (some ⟨b, off + k, none⟩) (n - k) (bs.drop k) := by
  have hn := h.len
  refine ⟨by simp; omega, fun h0 => ?_⟩
  obtain ⟨b', off', e, hl, hb, hc⟩ := h.2 (by omega)
  injection e with e
  injection e with e1 e2
  subst e1 e2
  refine ⟨b, off + k, rfl, hl, hb, fun i v hi => ?_⟩
  rw [List.map_drop, List.getElem?_drop] at hi
  have := hc (k + i) v hi
  rwa [← Nat.add_assoc] at this
theorem Bs.cut {b off : Nat} (h : Bs w S (some ⟨b, off, none⟩) n bs) {k c : Nat} (hk : k ≤ n) (hc : n ≤ c) : Bs w S (if c = k then some ⟨b, off, none⟩ else some ⟨b, off + k, none⟩) (n - k) (bs.drop k) := by
  split
  · have hn := h.len
    obtain rfl : k = n := by omega
    rw [Nat.sub_self, List.drop_eq_nil_of_le (by omega)]
    exact Bs.empty _ _ _
  · exact h.drop hk
theorem Bs.nil_of (h : Bs w S none n bs) : n = 0 ∧ bs = [] := by
  rcases Nat.eq_zero_or_pos n with h0 | h0
  · subst h0
    exact ⟨rfl, List.eq_nil_of_length_eq_zero h.len⟩
  · obtain ⟨_, _, e, _⟩ := h.2 h0
    cases e
theorem Bs.src (h : Bs w S A n bs) : 0 < (bs.map bv).length → ∃ ad, A = some ad ∧ ∀ j v, (bs.map bv)[j]? = some v → w.cell? (ad.add j) = some v := by
  intro h0
  have hl := h.len
  obtain ⟨b, off, e, _, _, hc⟩ := h.2 (by simpa [hl] using h0)
  refine ⟨_, e, fun j v hj => ?_⟩
  have := hc j v hj
  unfold Addr.add
  split
  · rename_i hz
    subst hz
    simpa using this
  · exact this
theorem zeros_bv (n : Nat) : (List.replicate n (0 : Int)).map (Value.int .u8) = (List.replicate n (0 : UInt8)).map bv := by simp
theorem oneCell_bytes : ∀ u ∈ bs.map bv, u.oneCell' = true := by
  intro u hu
  obtain ⟨n, _, rfl⟩ := List.mem_map.1 hu
  rfl
theorem addr_add (b off i : Nat) : (⟨b, off, none⟩ : Addr).add i = ⟨b, off + i, none⟩ := by
  unfold Addr.add
  split
  · rename_i h
    simp_all
  · rfl
/-- 'string(b)'. -/
theorem run_string_bs {P : Program} (src dst e : TypeId) (c : Nat) (hs : P.underlying src = some (.slice e)) (he : P.underlying e = some (.int .u8)) (hd : P.underlying dst = some .string) (h : Bs w S A n bs) :
    (convert src dst (.slice A n c)).run P w = .ok (.string ⟨bs.toArray⟩) w := by
  have hn := h.len
  rcases A with _ | a
  · obtain ⟨rfl, rfl⟩ := h.nil_of
    rw [run_convert_bytes_string w src dst e none 0 c hs he hd]
    rfl
  · subst hn
    refine run_convert_bytes_back w src dst e a c bs hs he hd ?_
    intro j hj
    obtain ⟨b, off, e1, _, _, h1⟩ := h.at_ hj
    injection e1 with e1
    subst e1
    rw [addr_add, h1, List.getD_eq_getElem?_getD, List.getElem?_eq_getElem hj]
    rfl
end
section
variable {H : Type} {enc : TypeId × Value → H} {P : Program} {w : World} {base : Nat} {spare : Nat → Bool} {held : Bool}
theorem bytes_of (ns : List Int) (h : ∀ x ∈ ns, (Lit.int .u8 x).wf = true) : ∃ bs : List UInt8, ns.map (Value.int .u8) = bs.map bv := by
  induction ns with
  | nil => exact ⟨[], rfl⟩
  | cons x ns ih =>
    obtain ⟨bs, hb⟩ := ih fun y hy => h y (by simp [hy])
    have hx := bounds_u8 (h x (by simp))
    refine ⟨UInt8.ofNat x.toNat :: bs, ?_⟩
    rw [List.map_cons, List.map_cons, hb]
    congr 2
    rw [UInt8.toNat_ofNat']
    omega
theorem open_bytes {r : Reach} {b0 : Nat} {t e : TypeId} {v : Value} {d : DataW H} {p : List MemPlace} (ht : P.underlying t = some (.slice e)) (he : P.underlying e = some (.int .u8)) (hone : P.cellsOf e = 1)
    (hv : Value.okWide P w r b0 t v) (h : DataW.Trod enc P w base spare held t v d p) :
    ∃ (A : Option Addr) (n c : Nat) (bs : List UInt8), v = .slice A n c ∧ n ≤ c ∧ c ≤ 9223372036854775807 ∧ Bs w (fun b => b < w.heap.size) A n bs := by
  obtain ⟨A, n, c, ns, rfl, h1, h2, h3, h4⟩ := open_ints_list ht he hone hv h
  obtain ⟨bs, hb⟩ := bytes_of ns h4
  rw [hb] at h3
  exact ⟨A, n, c, bs, rfl, h1, h2, h3⟩
end

/-! ### Bytes over others -/
/-- xs over bs, from off on. -/
def overB (bs : List UInt8) (off : Nat) (xs : List UInt8) : List UInt8 := bs.take off ++ xs ++ bs.drop (off + xs.length)
theorem overB_nil (bs : List UInt8) (off : Nat) : overB bs off [] = bs := by simp [overB]
theorem overB_len (bs : List UInt8) (off : Nat) (xs : List UInt8) (h : off + xs.length ≤ bs.length) : (overB bs off xs).length = bs.length := by
  simp [overB]
  omega
theorem overB_snoc (bs : List UInt8) (off : Nat) (xs : List UInt8) (c : UInt8) (h : off + xs.length < bs.length) : (overB bs off xs).set (off + xs.length) c = overB bs off (xs ++ [c]) := by
  apply List.ext_getElem?
  intro i
  have hl : (bs.take off ++ xs).length = off + xs.length := by simp; omega
  simp only [overB]
  rw [List.set_append_right _ _ (by omega), hl, Nat.sub_self, List.drop_eq_getElem_cons (by omega), List.set_cons_zero]
  simp [Nat.add_assoc]

/-! ### Numbers as bytes, the lowest one first -/
def oct (v i : Nat) : UInt8 := UInt8.ofNat (v / 256 ^ i % 256)
def leB (v : Nat) (k : Nat) : List UInt8 := (List.range k).map (oct v)
def num : List UInt8 → Nat
  | [] => 0
  | c :: l => c.toNat + 256 * num l
theorem leB_len (v k : Nat) : (leB v k).length = k := by simp [leB]
theorem leB_succ (v k : Nat) : leB v (k + 1) = leB v k ++ [oct v k] := by simp [leB, List.range_succ]
theorem oct_nat (v i : Nat) : (oct v i).toNat = v / 256 ^ i % 256 := by
  unfold oct
  rw [UInt8.toNat_ofNat']
  omega
theorem num_append (a b : List UInt8) : num (a ++ b) = num a + 256 ^ a.length * num b := by
  induction a with
  | nil => simp [num]
  | cons c a ih =>
    simp only [List.cons_append, num, ih, List.length_cons, Nat.pow_succ]
    rw [Nat.mul_add, Nat.add_assoc, Nat.mul_comm (256 ^ a.length) 256, Nat.mul_assoc]
theorem num_lt (l : List UInt8) : num l < 256 ^ l.length := by
  induction l with
  | nil => simp [num]
  | cons c l ih =>
    have := c.toNat_lt
    simp only [num, List.length_cons, Nat.pow_succ]
    omega
theorem num_leB (v k : Nat) : num (leB v k) = v % 256 ^ k := by
  induction k with
  | zero => simp [leB, num, Nat.mod_one]
  | succ k ih =>
    rw [leB_succ, num_append, ih, leB_len, num, num, oct_nat, Nat.mul_zero, Nat.add_zero, Nat.pow_succ, Nat.mod_mul]
theorem leB_num (l : List UInt8) : leB (num l) l.length = l := by
  apply List.ext_getElem
  · simp [leB]
  · intro i h1 h2
    simp only [leB, List.getElem_map, List.getElem_range]
    apply UInt8.toNat_inj.1
    rw [oct_nat]
    have e := List.take_append_drop i l
    have h3 : num l = num (l.take i) + 256 ^ i * num (l.drop i) := by
      have h := num_append (l.take i) (l.drop i)
      rw [e, List.length_take, Nat.min_eq_left (by omega)] at h
      exact h
    have h4 := num_lt (l.take i)
    rw [List.length_take, Nat.min_eq_left (by omega)] at h4
    rw [h3, Nat.add_mul_div_left _ _ (Nat.pow_pos (by omega)), Nat.div_eq_of_lt h4, Nat.zero_add, List.drop_eq_getElem_cons h2]
    have := (l[i]).toNat_lt
    simp only [num]
    omega

/-! ### A row of the call's own, known whole -/
section
variable {w : World} {base g n : Nat} {e : TypeId} {xs : List Value}
theorem own_heap (h : w.ownsRow base e 1 (.slice (some ⟨g, 0, none⟩) n n) n xs) : w.heap[g]? = some (.cells xs.toArray e (0, 0)) := by
  obtain ⟨h1, h2⟩ := h
  rcases h2 with ⟨h3, _⟩ | ⟨g', c', cur, hv, _, hh, _, _, x3, x4⟩
  · cases h3
  · injection hv with e1 _ e2
    injection e1 with e1
    injection e1 with e1
    subst e1 e2
    rw [hh, ← x4, List.take_of_length_le (by simp; omega)]
theorem own_of_heap (h : w.heap[g]? = some (.cells xs.toArray e (0, 0))) (hl : xs.length = n) (hb : base ≤ g) (hn : n ≤ maxLen) : w.ownsRow base e 1 (.slice (some ⟨g, 0, none⟩) n n) n xs :=
  ⟨by omega, .inr ⟨g, n, xs.toArray, rfl, hb, h, Nat.le_refl _, hn, by simp; omega, by rw [List.take_of_length_le (by simp; omega)]⟩⟩
end
theorem overB_end (bs zs xs : List UInt8) (h : zs.length = xs.length) : overB (bs ++ zs) bs.length xs = bs ++ xs := by
  simp [overB, h]
end Go
