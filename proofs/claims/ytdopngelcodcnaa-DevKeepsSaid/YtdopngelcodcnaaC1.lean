/- What a call may turn; rows of the call's own. -/
import Derived.Test.YtdopngelcodcnaaChecked
import Derived.Test.YtdopngelcodcnaaRows
import Derived.Test.YtdopngelcodcnaaShapes
import Derived.Test.YtdopngelcodcnaaOver
import Derived.Test.YtdopngelcodcnaaBits
import Derived.Test.YtdopngelcodcnaaBlk
import Derived.Test.YtdopngelcodcnaaBytes
import Derived.Test.YtdopngelcodcnaaFill
import Derived.Test.YtdopngelcodcnaaSoft
import Derived.WalkSpells
import Derived.WalkLawsBesides
import Derived.Lib.Hide
import Derived.Lib.ItoaNum
import Derived.OneCell
import Derived.LoopTactic
import Derived.Laws.CopyOwn
import Derived.Deep.RegionLaw
import Derived.Deep.RegionHeldLaw
import Derived.Deep.AppendLies
namespace Go.Proofs.Ytdopngelcodcnaa
open Go.RowKit

/-- What a call may turn: the blocks that S names, and new ones. -/
def Chg (w w' : World) (S : Nat → Prop) : Prop := w'.os = w.os ∧ w'.tape = w.tape ∧ w'.output = w.output ∧ w.heap.size ≤ w'.heap.size ∧ ∀ k, k < w.heap.size → ¬ S k → w'.heap[k]? = w.heap[k]?
section
variable {w w' w'' : World} {S S' : Nat → Prop}
theorem Chg.refl (w : World) (S : Nat → Prop) : Chg w w S := ⟨rfl, rfl, rfl, Nat.le_refl _, fun _ _ _ => rfl⟩
theorem Chg.size (h : Chg w w' S) : w.heap.size ≤ w'.heap.size := h.2.2.2.1
theorem Chg.trans (h : Chg w w' S) (h' : Chg w' w'' S') (hS : ∀ k, k < w.heap.size → S' k → S k) : Chg w w'' S :=
  ⟨h'.1.trans h.1, h'.2.1.trans h.2.1, h'.2.2.1.trans h.2.2.1, Nat.le_trans h.size h'.size, fun k hk hn => (h'.2.2.2.2 k (Nat.lt_of_lt_of_le hk h.size) (fun q => hn (hS k hk q))).trans (h.2.2.2.2 k hk hn)⟩
theorem Chg.of_below (h : Below w.heap.size w w') : Chg w w' S := ⟨h.os, h.tape, h.output, h.size, fun k hk _ => h.block k hk⟩
theorem Chg.drew (h : Chg w w' S) : Chg w w'.drew S := h
theorem Chg.drewN (h : Chg w w' S) (n : Nat) : Chg w (w'.drewN n) S := h
theorem Chg.alloc (h : Chg w w' S) (o : Obj) : Chg w (w'.alloc o) S := h.trans (S' := S) (Chg.of_below ((Below.refl _ _).alloc (Nat.le_refl _) o)) fun _ _ q => q
theorem Chg.put (h : Chg w w' S) (g i : Nat) (u : Value) (hg : S g) : Chg w (w'.setCell ⟨g, i, none⟩ u) S :=
  h.trans (S' := S) ⟨rfl, rfl, rfl, by simp, fun k _ hn => Below.heap_setCell w' ⟨g, i, none⟩ u k (fun e => hn (e ▸ hg))⟩ fun _ _ q => q
theorem Chg.grown {row : Option Nat} (h : Chg w w' S) (hg : w'.grownBy w'' row) (hr : ∀ b, row = some b → b < w.heap.size → S b) : Chg w w'' S :=
  h.trans (S' := fun b => row = some b) ⟨hg.os, hg.tape, hg.output, hg.size, fun k hk hn => hg.block k hk (fun e => hn e.symm)⟩ fun k hk q => hr k q hk
theorem Chg.below {B : Nat} {a : World} (hb : Below B a w) (h : Chg w w' S) (hS : ∀ k, k < B → ¬ S k) (hB : B ≤ w.heap.size) : Below B a w' :=
  hb.trans ⟨h.1, h.2.1, h.2.2.1, h.2.2.2.1, fun k hk => h.2.2.2.2 k (by omega) (hS k hk)⟩
theorem Chg.whole (h : Chg w w' S) {k : Nat} {t : TypeId} {cs : Array Value} (hw : Whole w k t cs) (hg : ¬ S k) : Whole w' k t cs := (h.2.2.2.2 k hw.lt hg).trans hw
end

theorem info_parts {t : TypeId} {z : Value} {s b : Nat} (h : (Try.prog.info? t).map (fun i => (i.zero, i.size, i.bytes)) = some (some z, s, b)) : ∃ i, Try.prog.info? t = some i ∧ i.zero = some z ∧ i.size = s ∧ i.bytes = b := by
  cases hi : Try.prog.info? t with
  | none => rw [hi] at h; cases h
  | some i =>
    rw [hi] at h
    simp at h
    exact ⟨i, rfl, h.1, h.2.1, h.2.2⟩
theorem info5 : (Try.prog.info? 5).map (fun i => (i.zero, i.size, i.bytes)) = some (some (.int .u8 0), 1, 1) := by kernel_rfl

theorem wrap_u64n (n : Nat) (h : n < 18446744073709551616) : IntKind.u64.wrap (n : Int) = n := IntWalk.u64_in _ (by omega)
theorem own_head {w : World} {base g n c e sz : Nat} {A : Option Addr} {xs : List Value} (h : w.ownsRow base e sz (.slice A n c) n xs) (hb : (Value.slice A n c).ownBlock = some g) : A = some ⟨g, 0, none⟩ := by
  rcases h.2 with ⟨h1, _⟩ | ⟨b, cap, cur, h1, _⟩
  · injection h1 with h1
    subst h1
    cases hb
  · injection h1 with h1
    subst h1
    injection hb with hb
    simp at hb
    rw [hb]
theorem u8_wrap_nat (y : Nat) : IntKind.u8.wrap (y : Int) = ((y % 256 : Nat) : Int) := by rw [IntKind.wrap_u8]; omega
theorem own_ne' {w : World} {base g n c : Nat} {A : Option Addr} {xs : List Value} {cs : Array Value} {t : TypeId} (ht : t ≠ 5) (hg : Whole w g t cs) (h : w.ownsRow base 5 1 (.slice A n c) n xs) : some g ≠ (Value.slice A n c).ownBlock := by
  rcases h.2 with ⟨h1, _⟩ | ⟨b, cap, cur, h1, _, h2, _⟩
  · injection h1 with h1
    subst h1
    intro e
    cases e
  · injection h1 with h1
    subst h1
    intro e
    injection e with e
    subst e
    unfold Whole at hg
    rw [hg] at h2
    injection h2 with h2
    injection h2 with _ h2
    exact ht h2
set_option maxHeartbeats 400000 in
theorem clone_any (A : Option Addr) (n c : Nat) (bs : List UInt8) (S : Nat → Prop) (w : World) (hL : Bs w S A n bs) (hn : n ≤ 140737488355328) :
    Calls Try.prog 23 #[.slice A n c] w fun e w' => ∃ A' c', e = .returned (.slice A' n c') ∧ w'.ownsRow w.heap.size 5 1 (.slice A' n c') n (bs.map bv) ∧ Below w.heap.size w w' := by
  obtain ⟨i0, hi, hz0, hz1, hz2⟩ := info_parts info5
  have HL := Lib.hid hL
  clear hL
  have eq := fun (w : World) => Lib.run_eql_slice_nil (P := Try.prog) w 29 5 A n c 0 0 Try.underlying29
  rcases A with _ | a
  · obtain ⟨rfl, rfl⟩ := HL.out.nil_of
    go_enter Try.func23, Try.ntmps23
    go_wp2
    go_ret
    exact ⟨none, 0, rfl, World.ownsRow_nil _ _ _ _, Below.refl _ _⟩
  · go_enter Try.func23, Try.ntmps23
    go_wp2_with (at_builtin; refine wpList_append_list _ rfl (.tmp 5) (.tmp 6) 29 rfl w.heap.size 5 i0 (.int .u8 0) 1 1 Try.underlying29 hi hz0 hz1 hz2 rfl (by decide) (.slice (some ⟨w.heap.size, 0, none⟩) 0 0) 0 [] rfl (World.ownsRow_made w #[] 0 (Nat.le_refl _) (by unfold maxLen; omega) rfl) _ (some a) n c _ rfl (Lst.alloc HL.out _) oneCell_bytes (by unfold maxLen; omega) (by omega) (by simp) ?_)
    intro A3 c3 x3 hown3 hgrow3 hat3
    have HW3 := Lib.hid (((Below.refl w.heap.size w).alloc (Nat.le_refl _) _).grown hgrow3 (by simp) (fun g e => by simp [Value.ownBlock] at e; omega))
    have HO3 := Lib.hid hown3
    clear hown3 hgrow3 hat3
    go_wp2
    go_ret
    exact ⟨A3, c3, by simp, by have := HO3.out; simpa using this, HW3.out⟩
theorem own_mono {w : World} {b b' n sz : Nat} {e : TypeId} {v : Value} {xs : List Value} (h : w.ownsRow b' e sz v n xs) (hb : b ≤ b') : w.ownsRow b e sz v n xs := by
  refine ⟨h.1, ?_⟩
  rcases h.2 with h1 | ⟨g, cap, cur, h1, h2, h3⟩
  · exact .inl h1
  · exact .inr ⟨g, cap, cur, h1, Nat.le_trans hb h2, h3⟩
theorem own_bs {w : World} {base g n c : Nat} {A : Option Addr} {bs : List UInt8} (h : w.ownsRow base 5 1 (.slice A n c) n (bs.map bv)) (hne : some g ≠ (Value.slice A n c).ownBlock) : Bs w (fun b => b ≠ g) A n bs := by
  have h1 := Bs.of_own h
  refine ⟨h1.1, fun h0 => ?_⟩
  obtain ⟨b, off, rfl, h2, _, h3⟩ := h1.2 h0
  refine ⟨b, off, rfl, h2, fun e => hne ?_, h3⟩
  rw [← e]
  rfl
theorem Whole.pos {w : World} {g : Nat} {t : TypeId} {cs : Array Value} (h : Whole w g t cs) : g < w.heap.size := h.lt
/-- 'copy' into a row that is known whole, of which nothing but that row turns; a step of a region that draws. -/
theorem setRow_chg (w : World) (g : Nat) (cs : Array Value) : Chg w (w.setRow g cs) (fun b => b = g) :=
  ⟨rfl, rfl, rfl, by simp [World.setRow], fun k _ hn => setRow_other w g k cs hn⟩
theorem step_copy_chg {P : Program} {ops : Array Oper} {o : Oper} {a : Act} {w : World} {K : Act → World → Prop} {Q : Exit → Act → World → Prop} {E : Prop} (hgd : o.guard = none) (d s : Operand) (dT sT : TypeId)
    (ho : o.op = .call { callee := .builtin .copy, args := #[d, s], argTypes := #[dT, sT] }) (elem : TypeId) (hu : P.underlying dT = some (.slice elem)) (hsz : (P.info? elem).map (·.size) = some 1)
    (dp sp : Option Addr) (dLen dCap sLen sCap : Nat) (hd : a.eval d = .slice dp dLen dCap) (hs : a.eval s = .slice sp sLen sCap)
    (g off : Nat) (cur : List Value) (t : TypeId) (hg : w.heap[g]? = some (.cells cur.toArray t (0, 0))) (cs : List Value) (hn : cs.length = Nat.min sLen dLen)
    (hpos : 0 < cs.length → dp = some ⟨g, off, none⟩ ∧ ∃ ad, sp = some ad ∧ ∀ j v, cs[j]? = some v → w.cell? (ad.add j) = some v)
    (hfit : off + cs.length ≤ cur.length) (h1 : ∀ v ∈ cs, v.oneCell' = true)
    (h : ∀ w', Hid (w'.heap[g]? = some (.cells (splice cur off cs).toArray t (0, 0))) → Chg w w' (fun b => b = g) → K (a.put o.dst (goInt cs.length)) w') :
    if Region.wanted o (yielded ops a.tmps) = true then Oper.wp P o a w K Q else E := by
  have hw : Region.wanted o (yielded ops a.tmps) = true := by simp [Region.wanted, hgd]
  rw [if_pos hw]
  by_cases h0 : cs.length = 0
  · obtain rfl : cs = [] := List.eq_nil_of_length_eq_zero h0
    have hrun := run_copy_none (P := P) w dT sT o.type elem dp sp dLen dCap sLen sCap hu hsz (by simpa using hn.symm)
    unfold Oper.wp
    simp [execOp, ho, resolve, invoke, builtin, hd, hs, hrun, Result.andThen]
    exact h w (show _ = _ by simpa [splice] using hg) (Chg.refl _ _)
  · obtain ⟨rfl, ad, rfl, hsrc⟩ := hpos (by omega)
    have hrun := run_copy_row (P := P) w dT sT o.type elem g off dLen dCap ad sLen sCap cur.toArray t cs hu hsz hg hn hsrc (by simpa using hfit) h1
    unfold Oper.wp
    simp [execOp, ho, resolve, invoke, builtin, hd, hs, hrun, Result.andThen]
    exact h _ (show _ = _ by simpa [splice] using setRow_heap w g _ _ t _ hg) (setRow_chg w g _)
theorem info_size5 : (Try.prog.info? 5).map (·.size) = some 1 := by kernel_rfl
end Go.Proofs.Ytdopngelcodcnaa
