/- Slices that read as lists, whatever lies in memory beside them; what append makes of them. -/
import Derived.WalkKit
import Derived.Maps.AppendAt
import Derived.Laws.OwnMore
import Derived.Deep.AppendLies
import Derived.Deep.Draws
namespace Go
open Go.RowKit

/-- The slice '(A, n)' of elements of 'size' cells reads as the cells xs; they lie in a block that S lets. -/
def Lst (w : World) (S : Nat → Prop) (size : Nat) (A : Option Addr) (n : Nat) (xs : List Value) : Prop :=
  xs.length = n * size ∧ (0 < n → ∃ b off, A = some ⟨b, off, none⟩ ∧ b < w.heap.size ∧ S b ∧ ∀ i v, xs[i]? = some v → w.cell? ⟨b, off + i, none⟩ = some v)

section
variable {w w' : World} {S T : Nat → Prop} {size n : Nat} {A : Option Addr} {xs : List Value}
theorem Lst.len (h : Lst w S size A n xs) : xs.length = n * size := h.1
theorem Lst.empty (w : World) (S : Nat → Prop) (size : Nat) (A : Option Addr) : Lst w S size A 0 [] := ⟨by simp, fun h => absurd h (by omega)⟩
theorem Lst.mono (h : Lst w S size A n xs) (hs : ∀ b, S b → T b) : Lst w T size A n xs :=
  ⟨h.1, fun hn => by obtain ⟨b, off, e, hl, hb, hc⟩ := h.2 hn; exact ⟨b, off, e, hl, hs b hb, hc⟩⟩
theorem Lst.keep (h : Lst w S size A n xs) (hz : w.heap.size ≤ w'.heap.size) (hk : ∀ b, b < w.heap.size → S b → w'.heap[b]? = w.heap[b]?) : Lst w' S size A n xs :=
  ⟨h.1, fun hn => by
    obtain ⟨b, off, e, hl, hb, hc⟩ := h.2 hn
    exact ⟨b, off, e, by omega, hb, fun i v hi => (World.cell?_of_block (a := ⟨b, off + i, none⟩) (hk b hl hb)).trans (hc i v hi)⟩⟩
theorem Lst.below (h : Lst w S size A n xs) (hb : Below w.heap.size w w') : Lst w' S size A n xs := h.keep hb.size fun b hl _ => hb.block b hl
theorem Lst.drew (h : Lst w S size A n xs) : Lst w.drew S size A n xs := h
theorem Lst.drewN (h : Lst w S size A n xs) (k : Nat) : Lst (w.drewN k) S size A n xs := h
theorem Lst.alloc (h : Lst w S size A n xs) (o : Obj) : Lst (w.alloc o) S size A n xs := h.keep (by simp) fun b hl _ => Below.heap_alloc w o b hl
theorem Lst.put (h : Lst w S size A n xs) {p : Addr} (u : Value) (hp : ∀ b, S b → b ≠ p.block) : Lst (w.setCell p u) S size A n xs :=
  h.keep (by simp) fun b _ hb => Below.heap_setCell w p u b (hp b hb)
theorem Lst.grown (h : Lst w S size A n xs) {row : Option Nat} (hg : w.grownBy w' row) (hr : ∀ b, b < w.heap.size → S b → some b ≠ row) : Lst w' S size A n xs :=
  h.keep hg.size fun b hl hb => hg.block b hl (hr b hl hb)
theorem Lst.and_lt (h : Lst w S size A n xs) : Lst w (fun b => S b ∧ b < w.heap.size) size A n xs :=
  ⟨h.1, fun hn => by obtain ⟨b, off, e, hl, hb, hc⟩ := h.2 hn; exact ⟨b, off, e, hl, ⟨hb, hl⟩, hc⟩⟩
/-- A row of the call's own reads as a list. -/
theorem Lst.of_own {base : Nat} {e : TypeId} {c : Nat} (h : w.ownsRow base e size (.slice A n c) n xs) : Lst w (fun b => base ≤ b) size A n xs := by
  refine ⟨h.1, fun hn => ?_⟩
  obtain ⟨g, cap, hv, hb, hlt⟩ := h.form hn
  have hA : A = some ⟨g, 0, none⟩ := by injection hv
  subst hA
  refine ⟨g, 0, rfl, hlt, hb, fun i u hi => ?_⟩
  have := h.cells (g := g) rfl i u hi
  by_cases h0 : i = 0
  · subst h0
    simpa [Addr.add] using this
  · simpa [Addr.add, h0] using this
theorem own_slice {base : Nat} {e : TypeId} {v : Value} (h : w.ownsRow base e size v n xs) : ∃ A c, v = .slice A n c := by
  rcases h.2 with ⟨rfl, rfl⟩ | ⟨g, cap, cur, rfl, _⟩
  · exact ⟨none, 0, rfl⟩
  · exact ⟨_, _, rfl⟩
theorem Lst.new (w : World) (t : TypeId) (cs : Array Value) (n : Nat) (hs : cs.size = n * size) {b : Nat} {fr : Nat × Nat} (hb : b = w.heap.size) : Lst (w.alloc (.cells cs t fr)) (fun k => k = w.heap.size) size (some ⟨b, 0, none⟩) n cs.toList := by
  subst hb
  refine ⟨by simpa using hs, fun _ => ⟨_, 0, rfl, by simp, rfl, fun i v hi => ?_⟩⟩
  have h := cell_of_row (w.alloc (.cells cs t fr)) w.heap.size (0 + i) cs t fr (heap_alloc_new w _)
  rw [h, Nat.zero_add]
  simpa using hi
/-- One element of a list of integers. -/
theorem Lst.int_at {k : IntKind} {ns : List Int} (h : Lst w S 1 A n (ns.map (Value.int k))) {i : Nat} (hi : i < n) : ∃ b off, A = some ⟨b, off, none⟩ ∧ b < w.heap.size ∧ S b ∧ w.cell? ⟨b, off + i, none⟩ = some (.int k (ns.getD i 0)) := by
  obtain ⟨b, off, e, hl, hb, hc⟩ := h.2 (by omega)
  have hn : ns.length = n := by have := h.1; simpa using this
  refine ⟨b, off, e, hl, hb, hc i _ ?_⟩
  rw [List.getElem?_map, List.getElem?_eq_getElem (by omega)]
  simp [List.getD, show i < ns.length by omega]
end

section
variable {P : Program} (w : World)
theorem run_append_nil' (base : Nat) (t ty e : TypeId) (i : TypeInfo) (size : Nat) (ht : P.underlying t = some (.slice e)) (hi : P.info? e = some i)
    (v : Value) (n : Nat) (xs : List Value) (hown : w.ownsRow base e size v n xs) (c : Nat) : (Builtin.append_ #[t, t] ty #[v, .slice none 0 c]).run P w = .ok v w := by
  rcases hown.2 with ⟨rfl, rfl⟩ | ⟨g, cap, cur, rfl, _, _, hnc, _⟩
  · simp [Builtin.append_, run_underlying ht, sizeOf, typeInfo, hi, Builtin.lenOf, Builtin.firstCells]
  · simp [Builtin.append_, run_underlying ht, sizeOf, typeInfo, hi, Builtin.lenOf, Builtin.firstCells, hnc, storeCells]

theorem run_append_list (base : Nat) (t ty e : TypeId) (i : TypeInfo) (z : Value) (size bytes : Nat) (ht : P.underlying t = some (.slice e)) (hi : P.info? e = some i) (hz : i.zero = some z)
    (hsize : i.size = size) (hby : i.bytes = bytes) (hzs : z.cells.size = size) (hsz : 0 < size)
    (v : Value) (n : Nat) (xs : List Value) (hown : w.ownsRow base e size v n xs)
    (S : Nat → Prop) (A : Option Addr) (m c : Nat) (ys : List Value) (hr : Lst w S size A m ys) (h1 : ∀ u ∈ ys, u.oneCell' = true)
    (h63 : n + m ≤ maxLen) (hbytes : (n + m) * bytes ≤ 140737488355328) (hbase : base ≤ w.heap.size) :
    ∃ v' w', (Builtin.append_ #[t, t] ty #[v, .slice A m c]).run P w = .ok v' w' ∧ w'.ownsRow base e size v' (n + m) (xs ++ ys) ∧ w.grownBy w' v.ownBlock ∧
      (v'.ownBlock = v.ownBlock ∨ v'.ownBlock = some w.heap.size) := by
  rcases Nat.eq_zero_or_pos m with h0 | h0
  · subst h0
    have hn : ys = [] := List.eq_nil_of_length_eq_zero (by simpa using hr.1)
    subst hn
    rcases A with _ | ad
    · exact ⟨v, w, run_append_nil' w base t ty e i size ht hi v n xs hown c, by simpa using hown, ⟨rfl, rfl, rfl, Nat.le_refl _, fun _ _ _ => rfl⟩, .inl rfl⟩
    · obtain ⟨v', w', hrun, h2, h3, _, h5⟩ := run_append_own_at (P := P) w base t ty e i z size bytes ht hi hz hsize hby hzs hsz v n xs hown ad 0 c [] (by simp) (fun j u hu => by simp at hu) (fun u hu => by simp at hu) h63 hbytes hbase
      exact ⟨v', w', hrun, h2, h3, h5⟩
  · obtain ⟨b, off, rfl, hl, hb, hc⟩ := hr.2 h0
    obtain ⟨v', w', hrun, h2, h3, _, h5⟩ := run_append_own_at (P := P) w base t ty e i z size bytes ht hi hz hsize hby hzs hsz v n xs hown ⟨b, off, none⟩ m c ys hr.1
      (fun j u hu => by
        have := hc j u hu
        by_cases hj : j = 0
        · subst hj; simpa [Addr.add] using this
        · simpa [Addr.add, hj] using this) h1 h63 hbytes hbase
    exact ⟨v', w', hrun, h2, h3, h5⟩

/-- 'append(own, list...)' at a plain region's list of operations. -/
theorem wpList_append_list {ops : Array Oper} {rest : List Oper} {o : Oper} {a : Act} {Q : Exit → Act → World → Prop} (hgd : o.guard = none) (s x : Operand) (t : TypeId)
    (ho : o.op = .call { callee := .builtin .append, args := #[s, x], argTypes := #[t, t] })
    (base : Nat) (e : TypeId) (i : TypeInfo) (z : Value) (size bytes : Nat) (ht : P.underlying t = some (.slice e)) (hi : P.info? e = some i) (hz : i.zero = some z)
    (hsize : i.size = size) (hby : i.bytes = bytes) (hzs : z.cells.size = size) (hsz : 0 < size)
    (v : Value) (n : Nat) (xs : List Value) (hs : a.eval s = v) (hown : w.ownsRow base e size v n xs)
    (S : Nat → Prop) (A : Option Addr) (m c : Nat) (ys : List Value) (hx : a.eval x = .slice A m c) (hr : Lst w S size A m ys) (h1 : ∀ u ∈ ys, u.oneCell' = true)
    (h63 : n + m ≤ maxLen) (hbytes : (n + m) * bytes ≤ 140737488355328) (hbase : base ≤ w.heap.size)
    (h : ∀ A' c' w', w'.ownsRow base e size (.slice A' (n + m) c') (n + m) (xs ++ ys) → w.grownBy w' v.ownBlock → ((Value.slice A' (n + m) c').ownBlock = v.ownBlock ∨ (Value.slice A' (n + m) c').ownBlock = some w.heap.size) → wpList P ops Q rest (a.put o.dst (.slice A' (n + m) c')) w') : wpList P ops Q (o :: rest) a w :=
  wpList_plain hgd fun K hK => by
    obtain ⟨v', w', hrun, h2, h3, h4⟩ := run_append_list (P := P) w base t o.type e i z size bytes ht hi hz hsize hby hzs hsz v n xs hown S A m c ys hr h1 h63 hbytes hbase
    obtain ⟨A', c', rfl⟩ := own_slice h2
    unfold Oper.wp execOp
    simp only [ho, resolve, invoke, builtin, Sem.run_bind, Sem.run_pure, Result.andThen_ok, List.map_toArray, List.map_cons, List.map_nil, hs, hx, hrun]
    exact hK _ _ (h A' c' w' h2 h3 h4)
end
theorem oneCell_ints {k : IntKind} {ns : List Int} : ∀ u ∈ ns.map (Value.int k), u.oneCell' = true := by
  intro u hu
  obtain ⟨n, _, rfl⟩ := List.mem_map.1 hu
  rfl
end Go
