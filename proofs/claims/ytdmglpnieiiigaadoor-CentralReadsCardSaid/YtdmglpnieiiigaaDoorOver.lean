/- The class of worlds that keep all that lay in a world: 'w.over x'. A region that draws its order, whose operations only read and whose calls may make memory of their own but hand back plain values, is walked once. -/
import Derived.WalkKit
import Derived.Deep.QuietTactic
import Derived.BigQuiet
import Derived.StillTailTactics
namespace Go
open Go.RowKit

def World.over (w x : World) : World := ⟨w.heap ++ x.heap.extract w.heap.size x.heap.size, w.tape, x.drawn, w.os, w.output⟩

theorem World.heap_over_lt (w x : World) (k : Nat) (h : k < w.heap.size) : (w.over x).heap[k]? = w.heap[k]? := by
  simp [World.over, Array.getElem?_append, h]

theorem World.over_below (w x : World) : Below w.heap.size w (w.over x) :=
  ⟨rfl, rfl, rfl, by simp [World.over], fun k hk => World.heap_over_lt w x k hk⟩

theorem World.over_of {w x : World} (h : Below w.heap.size w x) : w.over x = x := by
  obtain ⟨h1, h2, h3, h4, h5⟩ := h
  cases x with
  | mk xh xt xd xo xu =>
    simp only at h1 h2 h3 h4 h5
    subst h1 h2 h3
    simp only [World.over]
    congr 1
    apply Array.ext_getElem?
    intro i
    by_cases hi : i < w.heap.size
    · rw [h5 i hi]
      simp [Array.getElem?_append, hi]
    · simp only [Array.getElem?_append, hi, if_false]
      by_cases hj : i < xh.size
      · rw [Array.getElem?_eq_getElem hj, Array.getElem?_eq_getElem (by simp; omega)]
        congr 1
        simp
        congr 1
        omega
      · rw [Array.getElem?_eq_none (by simp; omega), Array.getElem?_eq_none (by omega)]

theorem World.cell?_over (w x : World) (p : Addr) (h : p.block < w.heap.size) : (w.over x).cell? p = w.cell? p := (World.over_below w x).cell h
theorem World.frozen?_over (w x : World) (p : Addr) (h : p.block < w.heap.size) : (w.over x).frozen? p = w.frozen? p := (World.over_below w x).frozen h
@[simp, go_sem] theorem World.cell?_over' (w x : World) (b o : Nat) (s : Option Nat) (h : b < w.heap.size) : (w.over x).cell? ⟨b, o, s⟩ = w.cell? ⟨b, o, s⟩ := (World.over_below w x).cell h
@[simp, go_sem] theorem World.frozen?_over' (w x : World) (b o : Nat) (s : Option Nat) (h : b < w.heap.size) : (w.over x).frozen? ⟨b, o, s⟩ = w.frozen? ⟨b, o, s⟩ := (World.over_below w x).frozen h
theorem World.over_over (w x y : World) : (w.over x).over y = w.over ((w.over x).over y) :=
  (World.over_of (((World.over_below w x).trans ((World.over_below (w.over x) y).mono (World.over_below w x).size)))).symm

theorem Calls.over_of {P : Program} {f : FuncId} {args : Array Value} {w x : World} {v : Value}
    (h : Calls P f args (w.over x) fun e w' => e = .returned v ∧ Below (w.over x).heap.size (w.over x) w') : Calls P f args (w.over x) fun e w'' => e = .returned v ∧ ∃ m, w'' = w.over m :=
  h.mono fun _ w'' ⟨he, hb⟩ => ⟨he, w'', (World.over_of ((World.over_below w x).trans (hb.mono (World.over_below w x).size))).symm⟩
theorem Calls.over_same {P : Program} {f : FuncId} {args : Array Value} {w x : World} {v : Value}
    (h : Calls P f args (w.over x) fun e w' => e = .returned v ∧ w.over x = w') : Calls P f args (w.over x) fun e w'' => e = .returned v ∧ ∃ m, w'' = w.over m :=
  h.mono fun _ _ ⟨he, hb⟩ => ⟨he, x, hb.symm⟩
theorem Calls.quiet_eq {P : Program} {f : FuncId} {args : Array Value} {w : World} {n : Nat} {v : Value}
    (h : Calls P f args (w.drewN n) fun e w' => e = .returned v ∧ w.drewN n = w') : Calls P f args (w.drewN n) fun e w'' => e = .returned v ∧ ∃ m, w'' = w.drewN m :=
  h.mono fun _ _ ⟨he, hm⟩ => ⟨he, n, hm.symm⟩

theorem wp_region_over_lit {P : Program} {id : Nat} {Q : Exit → Act → World → Prop} {a : Act} {w : World} {l : List Oper} (hm : P.follows .mixedOrders = true) (hB : Region.lexB .any l.toArray = true)
    (h : wpQuiet P l.toArray (fun w' => ∃ n, w' = w.over n) (fun a' => ∀ w', (∃ n, w' = w.over n) → Q .normal a' w') l a) : (Code.region id l.toArray true).wp P Q a w :=
  wp_region_quiet (C := fun w' => ∃ n, w' = w.over n) hm hB ⟨w.drew, (World.over_of ((Below.refl _ _).drew)).symm⟩ (by simpa using h)

theorem wpQuiet_mono {P : Program} {ops : Array Oper} {C : World → Prop} {Q Q' : Act → Prop} (hQ : ∀ a, Q a → Q' a) : ∀ (l : List Oper) (a : Act), wpQuiet P ops C Q l a → wpQuiet P ops C Q' l a
  | [], a, h => hQ a h
  | o :: l, a, h => by
    unfold wpQuiet at h ⊢
    split
    · rename_i hw
      rw [if_pos hw] at h
      exact Oper.quiet_mono (fun a => wpQuiet_mono hQ l a) h
    · rename_i hw
      rw [if_neg hw] at h
      exact wpQuiet_mono hQ l _ h
/-- The region in the class 'w.over ..'; behind it a world of which only is known that it keeps what lay in w. -/
theorem wp_region_over {P : Program} {id : Nat} {Q : Exit → Act → World → Prop} {a : Act} {w : World} {l : List Oper} (hm : P.follows .mixedOrders = true) (hB : Region.lexB .any l.toArray = true)
    (h : wpQuiet P l.toArray (fun w' => ∃ n, w' = w.over n) (fun a' => ∀ w', Below w.heap.size w w' → Q .normal a' w') l a) : (Code.region id l.toArray true).wp P Q a w :=
  wp_region_over_lit hm hB (wpQuiet_mono (fun _ h w' ⟨n, hn⟩ => h w' (hn ▸ World.over_below w n)) _ _ h)

theorem wp_region_tail {P : Program} {id : Nat} {Q : Exit → Act → World → Prop} {a : Act} {w : World} {l : List Oper} (n : Nat) (hm : P.follows .mixedOrders = true) (hB : Region.lexTailB .any l.toArray n = true)
    (h : wpStill P l.toArray w.drew (fun a' => wpList P l.toArray Q (l.drop n) a' w.drew) (l.take n) a) : (Code.region id l.toArray true).wp P Q a w := wp_region_still_tail n hm hB h
theorem Calls.still_eq {P : Program} {f : FuncId} {args : Array Value} {w : World} {v : Value}
    (h : Calls P f args w fun e w' => e = .returned v ∧ w = w') : Calls P f args w fun e w' => e = .returned v ∧ w' = w := h.mono fun _ _ ⟨he, hm⟩ => ⟨he, hm.symm⟩

theorem heap_new (w : World) (o : Obj) (b : Nat) (h : b = w.heap.size) : (w.alloc o).heap[b]? = some o := by rw [h]; exact heap_alloc_new w o
theorem RowKit.Below.drewN' {B : Nat} {a w : World} (h : Below B a w) (n : Nat) : Below B a (w.drewN n) := h.trans ⟨rfl, rfl, rfl, Nat.le_refl _, fun _ _ => rfl⟩
theorem RowKit.Below.over' {B : Nat} {a w : World} (h : Below B a w) (hB : B ≤ w.heap.size) (x : World) : Below B a (w.over x) := h.trans ((World.over_below w x).mono hB)
end Go
