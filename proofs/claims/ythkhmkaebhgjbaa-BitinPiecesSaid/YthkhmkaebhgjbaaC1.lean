/- What a call may turn; rows of the call's own. -/
import Derived.Test.YthkhmkaebhgjbaaChecked
import Derived.Test.YthkhmkaebhgjbaaRows
import Derived.Test.YthkhmkaebhgjbaaShapes
import Derived.Test.YthkhmkaebhgjbaaOver
import Derived.Test.YthkhmkaebhgjbaaBits
import Derived.Test.YthkhmkaebhgjbaaBlk
import Derived.Test.YthkhmkaebhgjbaaBytes
import Derived.Test.YthkhmkaebhgjbaaFill
import Derived.Test.YthkhmkaebhgjbaaSoft
import Derived.WalkSpells
import Derived.WalkLawsBesides
import Derived.Lib.Hide
import Derived.Lib.ItoaNum
import Derived.OneCell
import Derived.LoopTactic
import Derived.Deep.RegionHeldLaw
import Derived.Deep.AppendLies
namespace Go.Proofs.Ythkhmkaebhgjbaa
open Go.RowKit

/-- What a call may turn: the blocks that S names, and new ones. -/
def Chg (w w' : World) (S : Nat → Prop) : Prop := w'.os = w.os ∧ w'.tape = w.tape ∧ w'.output = w.output ∧ w.heap.size ≤ w'.heap.size ∧ ∀ k, k < w.heap.size → ¬ S k → w'.heap[k]? = w.heap[k]?
section
variable {w w' w'' : World} {S S' : Nat → Prop}
theorem Chg.refl (w : World) (S : Nat → Prop) : Chg w w S := ⟨rfl, rfl, rfl, Nat.le_refl _, fun _ _ _ => rfl⟩
theorem Chg.size (h : Chg w w' S) : w.heap.size ≤ w'.heap.size := h.2.2.2.1
theorem Chg.trans (h : Chg w w' S) (h' : Chg w' w'' S') (hS : ∀ k, k < w.heap.size → S' k → S k) : Chg w w'' S :=
  ⟨h'.1.trans h.1, h'.2.1.trans h.2.1, h'.2.2.1.trans h.2.2.1, Nat.le_trans h.size h'.size, fun k hk hn => (h'.2.2.2.2 k (Nat.lt_of_lt_of_le hk h.size) (fun q => hn (hS k hk q))).trans (h.2.2.2.2 k hk hn)⟩
theorem Chg.of_below (h : Below w.heap.size w w') : Chg w w' S := ⟨h.os, h.tape, h.output, h.size, fun k hk _ => h.block k hk⟩
theorem Chg.drew (h : Chg w w' S) : Chg w w'.drew S := h
theorem Chg.drewN (h : Chg w w' S) (n : Nat) : Chg w (w'.drewN n) S := h
theorem Chg.alloc (h : Chg w w' S) (o : Obj) : Chg w (w'.alloc o) S := h.trans (S' := S) (Chg.of_below ((Below.refl _ _).alloc (Nat.le_refl _) o)) fun _ _ q => q
theorem Chg.put (h : Chg w w' S) (g i : Nat) (u : Value) (hg : S g) : Chg w (w'.setCell ⟨g, i, none⟩ u) S :=
  h.trans (S' := S) ⟨rfl, rfl, rfl, by simp, fun k _ hn => Below.heap_setCell w' ⟨g, i, none⟩ u k (fun e => hn (e ▸ hg))⟩ fun _ _ q => q
theorem Chg.grown {row : Option Nat} (h : Chg w w' S) (hg : w'.grownBy w'' row) (hr : ∀ b, row = some b → b < w.heap.size → S b) : Chg w w'' S :=
  h.trans (S' := fun b => row = some b) ⟨hg.os, hg.tape, hg.output, hg.size, fun k hk hn => hg.block k hk (fun e => hn e.symm)⟩ fun k hk q => hr k q hk
theorem Chg.below {B : Nat} {a : World} (hb : Below B a w) (h : Chg w w' S) (hS : ∀ k, k < B → ¬ S k) (hB : B ≤ w.heap.size) : Below B a w' :=
  hb.trans ⟨h.1, h.2.1, h.2.2.1, h.2.2.2.1, fun k hk => h.2.2.2.2 k (by omega) (hS k hk)⟩
theorem Chg.whole (h : Chg w w' S) {k : Nat} {t : TypeId} {cs : Array Value} (hw : Whole w k t cs) (hg : ¬ S k) : Whole w' k t cs := (h.2.2.2.2 k hw.lt hg).trans hw
end

theorem info_parts {t : TypeId} {z : Value} {s b : Nat} (h : (Try.prog.info? t).map (fun i => (i.zero, i.size, i.bytes)) = some (some z, s, b)) : ∃ i, Try.prog.info? t = some i ∧ i.zero = some z ∧ i.size = s ∧ i.bytes = b := by
  cases hi : Try.prog.info? t with
  | none => rw [hi] at h; cases h
  | some i =>
    rw [hi] at h
    simp at h
    exact ⟨i, rfl, h.1, h.2.1, h.2.2⟩
theorem info5 : (Try.prog.info? 5).map (fun i => (i.zero, i.size, i.bytes)) = some (some (.int .u8 0), 1, 1) := by kernel_rfl

/-- The blocks of a thing at block g. -/
def Its (g : Nat) (A : Option Addr) (b : Nat) : Prop := b = g ∨ A.map (·.block) = some b
theorem wrap_u64n (n : Nat) (h : n < 18446744073709551616) : IntKind.u64.wrap (n : Int) = n := IntWalk.u64_in _ (by omega)
theorem own_head {w : World} {base g n c e sz : Nat} {A : Option Addr} {xs : List Value} (h : w.ownsRow base e sz (.slice A n c) n xs) (hb : (Value.slice A n c).ownBlock = some g) : A = some ⟨g, 0, none⟩ := by
  rcases h.2 with ⟨h1, _⟩ | ⟨b, cap, cur, h1, _⟩
  · injection h1 with h1
    subst h1
    cases hb
  · injection h1 with h1
    subst h1
    injection hb with hb
    simp at hb
    rw [hb]
theorem u8_wrap_nat (y : Nat) : IntKind.u8.wrap (y : Int) = ((y % 256 : Nat) : Int) := by rw [IntKind.wrap_u8]; omega
end Go.Proofs.Ythkhmkaebhgjbaa
