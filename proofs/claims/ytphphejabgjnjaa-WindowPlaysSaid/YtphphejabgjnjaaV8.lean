/- One call of the window and the page's: what none asks. -/
import Derived.Test.YtphphejabgjnjaaV7
namespace Go.Proofs.Ytphphejabgjnjaa
open Go.RowKit

theorem step_append_list {P : Program} {w : World} {ops : Array Oper} {o : Oper} {a : Act} {K : Act → World → Prop} {Q : Exit → Act → World → Prop} {E : Prop} (hgd : o.guard = none) (s x : Operand) (t : TypeId)
    (ho : o.op = .call { callee := .builtin .append, args := #[s, x], argTypes := #[t, t] })
    (base : Nat) (e : TypeId) (i : TypeInfo) (z : Value) (size bytes : Nat) (ht : P.underlying t = some (.slice e)) (hi : P.info? e = some i) (hz : i.zero = some z)
    (hsize : i.size = size) (hby : i.bytes = bytes) (hzs : z.cells.size = size) (hsz : 0 < size)
    (v : Value) (n : Nat) (xs : List Value) (hs : a.eval s = v) (hown : w.ownsRow base e size v n xs)
    (S : Nat → Prop) (A : Option Addr) (m c : Nat) (ys : List Value) (hx : a.eval x = .slice A m c) (hr : Lst w S size A m ys) (h1 : ∀ u ∈ ys, u.oneCell' = true)
    (h63 : n + m ≤ maxLen) (hbytes : (n + m) * bytes ≤ 140737488355328) (hbase : base ≤ w.heap.size)
    (h : ∀ A' c' w', w'.ownsRow base e size (.slice A' (n + m) c') (n + m) (xs ++ ys) → w.grownBy w' v.ownBlock → K (a.put o.dst (.slice A' (n + m) c')) w') : if Region.wanted o (yielded ops a.tmps) = true then Oper.wp P o a w K Q else E := by
  have hw : Region.wanted o (yielded ops a.tmps) = true := by simp [Region.wanted, hgd]
  rw [if_pos hw]
  obtain ⟨v', w', hrun, h2, h3, h4⟩ := run_append_list (P := P) w base t o.type e i z size bytes ht hi hz hsize hby hzs hsz v n xs hown S A m c ys hr h1 h63 hbytes hbase
  obtain ⟨A', c', rfl⟩ := own_slice h2
  unfold Oper.wp execOp
  simp only [ho, resolve, invoke, builtin, Sem.run_bind, Sem.run_pure, Result.andThen_ok, List.map_toArray, List.map_cons, List.map_nil, hs, hx, hrun]
  exact h A' c' w' h2 h3
theorem own_capn {w : World} {base n c sz : Nat} {e : TypeId} {A : Option Addr} {xs : List Value} (h : w.ownsRow base e sz (.slice A n c) n xs) : n ≤ c := by
  rcases h.2 with ⟨h1, h2⟩ | ⟨g, cap, cur, h1, _, _, h2, _⟩
  · omega
  · injection h1 with h1 _ h3
    omega
theorem own_grown {w w' : World} {row : Option Nat} {base n c sz : Nat} {e : TypeId} {A : Option Addr} {xs : List Value} (h : w.ownsRow base e sz (.slice A n c) n xs) (hg : w.grownBy w' row) (hA : ∀ k, A.map (·.block) = some k → some k ≠ row) : w'.ownsRow base e sz (.slice A n c) n xs := by
  refine ⟨h.1, ?_⟩
  rcases h.2 with h1 | ⟨g, cap, cur, h1, h2, h3, h4⟩
  · exact .inl h1
  · injection h1 with e1 e2 e3
    subst e1 e3
    exact .inr ⟨g, _, cur, rfl, h2, (hg.block g (Whole.lt h3) (hA g rfl)).trans h3, h4⟩
theorem firm_bs {S : Nat → Prop} {A : Option Addr} {n : Nat} {bs : List UInt8} : Firm fun w => Bs w S A n bs := fun _ _ h he => Bs.below h he
theorem row_is {k q : Nat} (e : some k = (Value.slice (some ⟨q, 0, none⟩) 0 0).ownBlock) : k = q := Option.some.inj e
theorem bs_row {w w' : World} {S : Nat → Prop} {A : Option Addr} {n : Nat} {bs : List UInt8} (h : Bs w S A n bs) (hg : (w.alloc (.cells #[] 5)).drew.grownBy w' (Value.slice (some ⟨w.heap.size, 0, none⟩) 0 0).ownBlock) : Bs w' S A n bs := by
  have h1 : Bs (w.alloc (.cells #[] 5)).drew (fun b => S b ∧ b < w.heap.size) A n bs := Bs.alloc h.and_lt _
  exact (h1.grown hg (fun b _ h e => by have := row_is e; have := h.2; omega)).mono (fun b h => h.1)
theorem below_row {w w' : World} (hg : (w.alloc (.cells #[] 5)).drew.grownBy w' (Value.slice (some ⟨w.heap.size, 0, none⟩) 0 0).ownBlock) : Below w.heap.size w w' :=
  ((Below.refl w.heap.size w).alloc (Nat.le_refl _) (.cells #[] 5)).drew.grown hg (by simp [World.drew]) (fun b e => by have := row_is e.symm; omega)
theorem bs_fin {w : World} {base n m c g : Nat} {A : Option Addr} {a b : List UInt8} (h : w.ownsRow base 5 1 (.slice A (n + m) c) (n + m) (a.map bv ++ b.map bv)) (hg : g < base) : Bs w (fun k => k ≠ g) A (n + m) (a ++ b) :=
  (Bs.of_own (by rw [List.map_append]; exact h)).mono (fun k hk => by omega)
def DoP (g n : Nat) (w : World) (e : Ending) (w' : World) : Prop :=
  ∃ A' n' c' all', e = .returned (.tuple #[.slice A' n' c', .bool true]) ∧ Bs w' (fun b => b ≠ g) A' n' all' ∧ n' ≤ c' ∧ Wnd w' g all' ∧ Alone w w' g ∧ n' ≤ n + 84000
def Dc3 (D : Int) (mn : Nat) : Prop := decide (1 ≤ D) = false ∨ (decide (1 ≤ D) = true ∧ decide (D ≤ (mn : Nat)) = false) ∨ (decide (1 ≤ D) = true ∧ decide (D ≤ (mn : Nat)) = true)
theorem dc3 (D : Int) (mn : Nat) : Dc3 D mn := by
  unfold Dc3
  by_cases h1 : 1 ≤ D
  · by_cases h2 : D ≤ (mn : Nat)
    · exact .inr (.inr ⟨by simpa using h1, by simpa using h2⟩)
    · exact .inr (.inl ⟨by simpa using h1, by simpa using h2⟩)
  · exact .inl (by simpa using h1)
set_option maxHeartbeats 4000000 in
set_option maxRecDepth 100000 in
theorem do5 (g n c m dc mn : Nat) (A B : Option Addr) (all data : List UInt8) (K D N : Int) (w : World) (hW : Wnd w g all) (hA : Bs w (fun b => b ≠ g) A n all) (hnc : n ≤ c) (hB : Bs w (fun b => b ≠ g) B m data) (hn : n ≤ 10000000) (hm : m ≤ 4000) (hmn : min n 32768 = mn)  (f0 : (K == 0) = false) (f1 : (K == 1) = false) (f2 : (K == 2) = false) (f3 : (K == 3) = false) (f4 : (K == 4) = false) : Calls Try.prog 8 #[.pointer (some ⟨g, 0, none⟩), .slice A n c, .agg #[.int .i64 K, .int .i64 D, .int .i64 N, .slice B m dc]] w (DoP g n w) := by
  obtain ⟨i0, hi, hz0, hz1, hz2⟩ := info_parts info5
  simp only at hz0 hz1 hz2
  have hgl := hW.lt
  have hlen := hA.len
  have hlen2 := hB.len
  have T1 := Lib.hid (Whole.new w 31 #[.int .i64 K, .int .i64 D, .int .i64 N, .slice B m dc] rfl)
  have HBx := Lib.hid ((Below.refl w.heap.size w).alloc (Nat.le_refl _) (.cells #[.int .i64 K, .int .i64 D, .int .i64 N, .slice B m dc] 31))
  have HW := Lib.hid (hW.below HBx.out)
  have HA := Lib.hid (hA.below HBx.out)
  have HB := Lib.hid (hB.below HBx.out)
  have HX := Lib.hid (Alone.of_below HBx.out g)
  have HRL := Lib.hid (rlen_any A n c (w.alloc (.cells #[.int .i64 K, .int .i64 D, .int .i64 N, .slice B m dc] 31)) (by omega))
  have x0 := T1.out.cell 0
  have x1 := T1.out.cell 1
  have x2 := T1.out.cell 2
  have x3 := T1.out.cell 3
  rw [hmn] at HRL
  have HLEN := Lib.hid hlen
  have HLEN2 := Lib.hid hlen2
  have HMN := Lib.hid hmn
  clear hW hA hB hlen hlen2 hmn
  go_enter Try.func8, Try.ntmps8
  go_wp2_with fail
  refine HRL.out.mono ?_
  rintro e wz ⟨rfl, rfl⟩
  clear HRL
  rcases dc3 D mn with i1 | ⟨i1, i2⟩ | ⟨i1, i2⟩
  all_goals
    go_wp2
    go_ret2
    exact ⟨A, n, c, all, rfl, HA.out, hnc, HW.out, HX.out, by omega⟩
end Go.Proofs.Ytphphejabgjnjaa
