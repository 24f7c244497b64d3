/- Steps that are run. -/
import Derived.Test.YtmmckhkiclifjaaW9
namespace Go.Proofs.Ytmmckhkiclifjaa
open Go.RowKit

theorem _root_.Go.Alone.after {w w' w'' : World} {g b : Nat} (h : Alone w w' g) (k : Alone w' w'' b) (hb : w.heap.size ≤ b) : Alone w w'' g :=
  ⟨k.1.trans h.1, k.2.1.trans h.2.1, k.2.2.1.trans h.2.2.1, Nat.le_trans h.2.2.2.1 k.2.2.2.1, fun i hi hg => (k.2.2.2.2 i (Nat.lt_of_lt_of_le hi h.2.2.2.1) (by omega)).trans (h.2.2.2.2 i hi hg)⟩
theorem _root_.Go.Ps.alone {w w' : World} {g n : Nat} {A : Option Addr} {l : List (Int × Int)} (h : Ps w (fun b => b ≠ g) A n l) (k : Alone w w' g) : Ps w' (fun b => b ≠ g) A n l := h.keep k.2.2.2.1 fun b hb hg => k.2.2.2.2 b hb hg
/-- What is left of the counter. -/
def Cnt (w : World) (g : Nat) (x : Int) (w' : World) : Prop := Alone w w' g ∧ Whole w' g 3 #[.int .i64 x]
def endOf : Option Int → Ending
  | none => .returned (.tuple #[])
  | some c => .panicked [{ v := fault c, recovered := false }]
def RunP (w : World) (g : Nat) (p : Int × Option Int) (e : Ending) (w' : World) : Prop := e = endOf p.2 ∧ Cnt w g p.1 w'
theorem clo32 (b1 b2 : Nat) (v u : Value) (w : World) (o : Option Int) (R : World → Prop) (h1 : Whole w b1 22 #[v]) (h2 : Whole w b2 30 #[u]) (h : Calls Try.prog 12 #[v, u] w fun e w' => e = endOf o ∧ R w') :
    Calls Try.prog 32 #[.pointer (some ⟨b1, 0, none⟩), .pointer (some ⟨b2, 0, none⟩)] w fun e w' => e = endOf o ∧ R w' := by
  have H := Lib.hid h
  have c1 := h1.cell 0
  have c2 := h2.cell 0
  have f1 := h1.free 0
  have f2 := h2.free 0
  clear h h1 h2
  go_enter Try.func32, Try.ntmps32
  go_wp2_with fail
  refine H.out.mono ?_
  rintro e w1 ⟨rfl, hR⟩
  have HR := Lib.hid hR
  clear hR
  cases o with
  | none =>
    simp only [endOf]
    go_wp2
    go_end0
    exact ⟨rfl, HR.out⟩
  | some c =>
    simp only [endOf]
    go_wp2
    simp [bodyPost]
    exact ⟨rfl, HR.out⟩
def CatchC (w : World) (g : Nat) (p : Int × Option Int) (e : Ending) (w' : World) : Prop := e = .returned (.int .i64 (p.2.getD 0)) ∧ Cnt w g p.1 w'
theorem catch32 (F : Value) (g : Nat) (p : Int × Option Int) (w : World) (hg : g < w.heap.size) (h : Calls Try.prog 31 #[F] (w.alloc (.cells #[.int .i64 0] 27)) (RunP (w.alloc (.cells #[.int .i64 0] 27)) g p)) :
    Calls Try.prog 10 #[F] w (CatchC w g p) := by
  have hfin : ∀ w' w'', Cnt (w.alloc (.cells #[.int .i64 0] 27)) g p.1 w' → Alone w' w'' w.heap.size → Cnt w g p.1 w'' := fun w' w'' h1 h2 =>
    ⟨(((Alone.refl w g).alloc _).trans h1.1).after h2 (Nat.le_refl _), h2.whole h1.2 (by omega)⟩
  have hb : ∀ w', Cnt (w.alloc (.cells #[.int .i64 0] 27)) g p.1 w' → Whole w' w.heap.size 27 #[.int .i64 0] := fun w' h1 => h1.1.whole (Whole.new w 27 #[.int .i64 0] rfl) (by omega)
  obtain ⟨x, o⟩ := p
  cases o with
  | none =>
    refine (catch_ret F w (Cnt (w.alloc (.cells #[.int .i64 0] 27)) g x) (h.mono fun e w' hp => ⟨hp.1, hb _ hp.2, hp.2⟩)).mono ?_
    rintro e w'' ⟨rfl, w', hc, ha⟩
    exact ⟨rfl, hfin _ _ hc ha⟩
  | some c =>
    refine (catch_throw F c w (Cnt (w.alloc (.cells #[.int .i64 0] 27)) g x) (h.mono fun e w' hp => ⟨hp.1, hb _ hp.2, hp.2⟩)).mono ?_
    rintro e w'' ⟨rfl, w', hc, ha⟩
    exact ⟨rfl, hfin _ _ hc ha⟩
theorem call_any (k : FuncId) (caps : Array Value) (o : Option Int) (w : World) (Q : World → Prop) (hcf : ∀ w, (callFunc k caps).run Try.prog w = .ok (.enter k caps) w)
    (h : Calls Try.prog k caps w fun e w' => e = endOf o ∧ Q w') : Calls Try.prog 31 #[.func (.func k) #[] caps] w fun e w' => e = endOf o ∧ Q w' := by
  cases o with
  | none => exact call_ret k caps w Q hcf h
  | some c => exact call_throw k caps _ w Q hcf h
end Go.Proofs.Ytmmckhkiclifjaa
