/- BitoutPlays: taking, and bits of bytes behind others. -/
import Derived.Test.YthpbiakjkmhfeaaP7
import Derived.Test.YthpbiakjkmhfeaaSoft
namespace Go.Proofs.Ythpbiakjkmhfeaa
open Go.RowKit

theorem step_append_list {P : Program} {w : World} {ops : Array Oper} {o : Oper} {a : Act} {K : Act → World → Prop} {Q : Exit → Act → World → Prop} {E : Prop} (hgd : o.guard = none) (s x : Operand) (t : TypeId)
    (ho : o.op = .call { callee := .builtin .append, args := #[s, x], argTypes := #[t, t] })
    (base : Nat) (e : TypeId) (i : TypeInfo) (z : Value) (size bytes : Nat) (ht : P.underlying t = some (.slice e)) (hi : P.info? e = some i) (hz : i.zero = some z)
    (hsize : i.size = size) (hby : i.bytes = bytes) (hzs : z.cells.size = size) (hsz : 0 < size)
    (v : Value) (n : Nat) (xs : List Value) (hs : a.eval s = v) (hown : w.ownsRow base e size v n xs)
    (S : Nat → Prop) (A : Option Addr) (m c : Nat) (ys : List Value) (hx : a.eval x = .slice A m c) (hr : Lst w S size A m ys) (h1 : ∀ u ∈ ys, u.oneCell' = true)
    (h63 : n + m ≤ maxLen) (hbytes : (n + m) * bytes ≤ 140737488355328) (hbase : base ≤ w.heap.size)
    (h : ∀ A' c' w', w'.ownsRow base e size (.slice A' (n + m) c') (n + m) (xs ++ ys) → w.grownBy w' v.ownBlock → K (a.put o.dst (.slice A' (n + m) c')) w') : if Region.wanted o (yielded ops a.tmps) = true then Oper.wp P o a w K Q else E := by
  have hw : Region.wanted o (yielded ops a.tmps) = true := by simp [Region.wanted, hgd]
  rw [if_pos hw]
  obtain ⟨v', w', hrun, h2, h3, h4⟩ := run_append_list (P := P) w base t o.type e i z size bytes ht hi hz hsize hby hzs hsz v n xs hown S A m c ys hr h1 h63 hbytes hbase
  obtain ⟨A', c', rfl⟩ := own_slice h2
  unfold Oper.wp execOp
  simp only [ho, resolve, invoke, builtin, Sem.run_bind, Sem.run_pure, Result.andThen_ok, List.map_toArray, List.map_cons, List.map_nil, hs, hx, hrun]
  exact h A' c' w' h2 h3
theorem bo_take {w : World} {S : Nat → Prop} {A : Option Addr} {n : Nat} {bs : List Bool} (h : Bo w S A n bs) {k : Nat} (hk : k ≤ n) : Bo w S A k (bs.take k) := by
  have hn := h.len
  refine ⟨by simp; omega, fun h0 => ?_⟩
  obtain ⟨b, off, e, hl, hb, hc⟩ := h.2 (by omega)
  refine ⟨b, off, e, hl, hb, fun i v hi => hc i v ?_⟩
  rw [List.map_take, List.getElem?_take] at hi
  split at hi
  · exact hi
  · cases hi
theorem own_capn {w : World} {base n c sz : Nat} {e : TypeId} {A : Option Addr} {xs : List Value} (h : w.ownsRow base e sz (.slice A n c) n xs) : n ≤ c := by
  rcases h.2 with ⟨h1, h2⟩ | ⟨g, cap, cur, h1, _, _, h2, _⟩
  · omega
  · injection h1 with h1 _ h3
    omega
theorem own_grown {w w' : World} {row : Option Nat} {base n c sz : Nat} {e : TypeId} {A : Option Addr} {xs : List Value} (h : w.ownsRow base e sz (.slice A n c) n xs) (hg : w.grownBy w' row) (hA : ∀ k, A.map (·.block) = some k → some k ≠ row) : w'.ownsRow base e sz (.slice A n c) n xs := by
  refine ⟨h.1, ?_⟩
  rcases h.2 with h1 | ⟨g, cap, cur, h1, h2, h3, h4⟩
  · exact .inl h1
  · injection h1 with e1 e2 e3
    subst e1 e3
    exact .inr ⟨g, _, cur, rfl, h2, (hg.block g (Whole.lt h3) (hA g rfl)).trans h3, h4⟩
theorem blk_own {A : Option Addr} {n c k : Nat} (h : some k = (Value.slice A n c).ownBlock) : A.map (·.block) = some k := by
  cases A with
  | none => cases h
  | some a => exact h.symm
section
variable {w w' : World} {base g : Nat} {A : Option Addr} {c : Nat} {D : List UInt8} {L N : Nat} {Ab : Option Addr} {nb cb : Nat} {bs : List Bool} {Ao : Option Addr} {no co : Nat} {O : List UInt8}
theorem St.took {e : Ending} (h : St w base g A c D L N Ab nb cb bs Ao no co O) (hp : Took w base g A c D L N e w') :
    e = .returned (.slice A D.length c) ∧ St w' base g none 0 [] L N Ab nb cb bs Ao no co O ∧ w'.ownsRow base 5 1 (.slice A D.length c) D.length (D.map bv) ∧ Below base w w' := by
  obtain ⟨he, hW, hO, hC⟩ := hp
  refine ⟨he, ⟨hW, own_chg h.al hC (fun k hk hg => ?_), own_chg h.out hC (fun k hk hg => ?_), fun k hk _ => (by cases hk), h.gb, Nat.le_trans h.bb hC.size⟩, hO, Chg.below (Below.refl _ _) hC (fun k hk hg => by have := h.gb; omega) h.bb⟩
  · subst hg
    obtain ⟨_, _, cs, h1⟩ := own_blk h.al hk
    have := whole_ty h1 h.wr.2.1
    cases this
  · subst hg
    obtain ⟨_, _, cs, h1⟩ := own_blk h.out hk
    have := whole_ty h1 h.wr.2.1
    cases this
theorem St.fin {D' : List UInt8} {N' : Nat} {e : Ending} (h : St w base g A c D L N Ab nb cb bs Ao no co O) (hp : Fin w base g A D' N' e w') :
    ∃ A' c', e = .returned (.slice A' D'.length c') ∧ St w' base g none 0 [] 0 N' Ab nb cb bs Ao no co O ∧ w'.ownsRow base 5 1 (.slice A' D'.length c') D'.length (D'.map bv) ∧ Below base w w' := by
  obtain ⟨A', c', he, hW, hO, hC, _⟩ := hp
  obtain ⟨a1, a2⟩ := h.apart
  exact ⟨A', c', he, ⟨hW, own_chg h.al hC a1, own_chg h.out hC a2, fun k hk _ => (by cases hk), h.gb, Nat.le_trans h.bb hC.size⟩, hO, Chg.below (Below.refl _ _) hC (h.wr.its h.gb (Nat.le_refl _)) h.bb⟩
/-- Bytes appended to what came. -/
theorem St.more {A' : Option Addr} {n' c' : Nat} {O' : List UInt8} (h : St w base g none 0 [] L N Ab nb cb bs Ao no co O) (ho : w'.ownsRow base 5 1 (.slice A' n' c') n' (O'.map bv)) (hg : w.grownBy w' (Value.slice Ao no co).ownBlock) :
    St w' base g none 0 [] L N Ab nb cb bs A' n' c' O' ∧ Below base w w' := by
  have hne : ∀ k, some k = (Value.slice Ao no co).ownBlock → base ≤ k ∧ k ≠ g ∧ ∃ cs, Whole w k 5 cs := fun k hk => by
    obtain ⟨h1, h2, cs, h3⟩ := own_blk h.out (blk_own hk)
    refine ⟨h1, fun e => ?_, cs, h3⟩
    subst e
    have := whole_ty h3 h.wr.2.1
    cases this
  refine ⟨⟨⟨h.wr.1, h.wr.2.1.grown hg (fun e => (hne g e).2.1 rfl), World.ownsRow_nil _ _ _ _⟩, own_grown h.al hg (fun k hk e => ?_), ho, fun k hk _ => (by cases hk), h.gb, Nat.le_trans h.bb hg.size⟩, (Below.refl _ _).grown hg h.bb (fun k e => (hne k e.symm).1)⟩
  obtain ⟨_, _, cs, h1⟩ := own_blk h.al hk
  obtain ⟨_, _, cs2, h2⟩ := hne k e
  have := whole_ty h1 h2
  cases this
end
theorem firm_bs {S : Nat → Prop} {A : Option Addr} {n : Nat} {bs : List UInt8} : Firm fun w => Bs w S A n bs := fun _ _ h he => Bs.below h he
end Go.Proofs.Ythpbiakjkmhfeaa
