/- What is always done behind. -/
import Derived.Test.YtmmckhkiclifjaaW13
namespace Go.Proofs.Ytmmckhkiclifjaa
open Go.RowKit

/-- Two counters are left so; beside them new blocks alone. -/
def Two (w : World) (g h : Nat) (x y : Int) (w' : World) : Prop :=
  (w'.os = w.os ∧ w'.tape = w.tape ∧ w'.output = w.output ∧ w.heap.size ≤ w'.heap.size ∧ ∀ k, k < w.heap.size → k ≠ g → k ≠ h → w'.heap[k]? = w.heap[k]?) ∧ Whole w' g 3 #[.int .i64 x] ∧ Whole w' h 3 #[.int .i64 y]
theorem Two.whole {w w' : World} {g h k : Nat} {x y : Int} {t : TypeId} {cs : Array Value} (hh : Two w g h x y w') (hw : Whole w k t cs) (h1 : k ≠ g) (h2 : k ≠ h) : Whole w' k t cs := (hh.1.2.2.2.2 k hw.lt h1 h2).trans hw
theorem catch_gen (F : Value) (o : Option Int) (w : World) (Q : World → Prop) (hc : Calls Try.prog 31 #[F] (w.alloc (.cells #[.int .i64 0] 27)) fun e w' => e = endOf o ∧ Whole w' w.heap.size 27 #[.int .i64 0] ∧ Q w') :
    Calls Try.prog 10 #[F] w (CatchP w Q (o.getD 0)) := by
  cases o with
  | none => exact catch_ret F w Q hc
  | some c => exact catch_throw F c w Q hc
theorem clo27 (g h : Nat) (x : Int) (w : World) (h1 : Whole w g 3 #[.int .i64 x]) {y : Int} (h2 : Whole w h 3 #[.int .i64 y]) :
    Calls Try.prog 27 #[.pointer (some ⟨g, 0, none⟩), .pointer (some ⟨h, 0, none⟩)] w fun e w' => e = .returned (.tuple #[]) ∧ w' = w.setCell ⟨h, 0, none⟩ (.int .i64 x) := by
  have c1 := h1.cell 0
  have f1 := h1.free 0
  have c2 := h2.cell 0
  have f2 := h2.free 0
  clear h1 h2
  go_enter Try.func27, Try.ntmps27
  go_wp2
  go_end0
  exact ⟨rfl, rfl⟩
theorem clo36 (b k : Nat) (caps : Array Value) (w : World) (u : FrameMode) (Q : World → Prop) (hb : Whole w b 1 #[.func (.func k) #[] caps]) (hcf : ∀ w, (callFunc k caps).run Try.prog w = .ok (.enter k caps) w)
    (h : Calls Try.prog k caps w fun e w' => e = .returned (.tuple #[]) ∧ Q w') : CallsD Try.prog 36 #[.pointer (some ⟨b, 0, none⟩)] u w fun e u' w' => u' = u ∧ e = .returned (.tuple #[]) ∧ Q w' := by
  have c1 := hb.cell 0
  have f1 := hb.free 0
  have H := Lib.hid (call_ret k caps w Q hcf h)
  clear h hb
  go_enter_d Try.func36, Try.ntmps36
  go_wp2_with fail
  refine H.out.mono ?_
  rintro e w1 ⟨rfl, hQ⟩
  have HQ := Lib.hid hQ
  clear hQ
  go_wp2
  go_end0
  exact ⟨rfl, HQ.out⟩
def AlwP (w : World) (g h : Nat) (P : Int × Option Int) (e : Ending) (w' : World) : Prop := e = endOf P.2 ∧ Two w g h P.1 P.1 w'
theorem always_run (F : Value) (g h : Nat) (P : Int × Option Int) (w : World) {y : Int} (hne : g ≠ h) (hg : g < w.heap.size) (hh : Whole w h 3 #[.int .i64 y])
    (hc : ∀ o, Calls Try.prog 31 #[F] (w.alloc o) (RunP (w.alloc o) g P)) : Calls Try.prog 25 #[F, .func (.func 27) #[] #[.pointer (some ⟨g, 0, none⟩), .pointer (some ⟨h, 0, none⟩)]] w (AlwP w g h P) := by
  have hmf : ∀ (fn : Fn) (first cap : Array Value) (w : World), (Instr.makeFunc fn first cap).run Try.prog w = .ok (.func fn first cap) w := fun _ _ _ _ => rfl
  have HC := Lib.hid hc
  clear hc
  obtain ⟨x, o⟩ := P
  have fin : ∀ wb w', Cnt (w.alloc wb) g x w' → Two w g h x x (w'.setCell ⟨h, 0, none⟩ (.int .i64 x)) := fun wb w' hcn => by
    have e1 := (Alone.refl w g).alloc wb
    have e2 := e1.trans hcn.1
    refine ⟨⟨e2.1, e2.2.1, e2.2.2.1, by simpa using e2.2.2.2.1, fun k hk h1 h2 => (Below.heap_setCell w' ⟨h, 0, none⟩ _ k h2).trans (e2.2.2.2.2 k hk h1)⟩, hcn.2.other hne _, ?_⟩
    exact (hcn.1.whole (hh.alloc wb) (fun e => hne e.symm)).put 0 _ rfl
  have dfr : ∀ (u : FrameMode) (w2 : World), Cnt (w.alloc (.cells #[.func (.func 27) #[] #[.pointer (some ⟨g, 0, none⟩), .pointer (some ⟨h, 0, none⟩)]] 1)) g x w2 →
      CallsD Try.prog 36 #[.pointer (some ⟨w.heap.size, 0, none⟩)] u w2 fun e u' w' => u' = u ∧ e = .returned (.tuple #[]) ∧ Two w g h x x w' := fun u w2 hcn =>
    clo36 _ 27 _ w2 u (Two w g h x x) (hcn.1.whole (Whole.new w 1 _ rfl) (by omega)) (fun _ => by kernel_rfl) ((clo27 g h x w2 hcn.2 (hcn.1.whole (hh.alloc _) (fun e => hne e.symm))).mono fun e w' ⟨h1, h2⟩ => ⟨h1, h2 ▸ fin _ _ hcn⟩)
  have DF := Lib.hid dfr
  clear dfr fin
  go_enter_defers Try.func25, Try.ntmps25
  go_wp2_with fail
  refine (HC.out _).mono ?_
  rintro e w2 ⟨rfl, hcn⟩
  have HCN := Lib.hid hcn
  clear hcn
  cases o with
  | none =>
    simp only [endOf]
    go_wp2
    refine leaves_cons (f := 36) (args := #[.pointer (some ⟨w.heap.size, 0, none⟩)]) (by simp) (by simp [go_sem]) ?_
    refine (DF.out _ _ HCN.out).mono ?_
    rintro e u' w'' ⟨rfl, rfl, hT⟩
    simp [Leaves, settle, results, Try.results25, go_sem]
    exact ⟨rfl, hT⟩
  | some c =>
    simp only [endOf]
    go_wp2
    refine leaves_cons (f := 36) (args := #[.pointer (some ⟨w.heap.size, 0, none⟩)]) (by simp) (by simp [go_sem]) ?_
    refine (DF.out _ _ HCN.out).mono ?_
    rintro e u' w'' ⟨rfl, rfl, hT⟩
    simp [Leaves, settle, results, Try.results25, go_sem]
    exact ⟨rfl, hT⟩
theorem clo24 (b g h : Nat) (P : Int × Option Int) (w : World) (hc : Calls Try.prog 25 #[.func (.func 26) #[] #[.pointer (some ⟨b, 0, none⟩), .pointer (some ⟨g, 0, none⟩)], .func (.func 27) #[] #[.pointer (some ⟨g, 0, none⟩), .pointer (some ⟨h, 0, none⟩)]] w (AlwP w g h P)) :
    Calls Try.prog 24 #[.pointer (some ⟨b, 0, none⟩), .pointer (some ⟨g, 0, none⟩), .pointer (some ⟨h, 0, none⟩)] w (AlwP w g h P) := by
  have hmf : ∀ (fn : Fn) (first cap : Array Value) (w : World), (Instr.makeFunc fn first cap).run Try.prog w = .ok (.func fn first cap) w := fun _ _ _ _ => rfl
  have HC := Lib.hid hc
  clear hc
  obtain ⟨x, o⟩ := P
  go_enter Try.func24, Try.ntmps24
  go_wp2_with fail
  refine HC.out.mono ?_
  rintro e w2 ⟨rfl, hT⟩
  have HT := Lib.hid hT
  clear hT
  cases o with
  | none =>
    simp only [endOf]
    go_wp2
    go_end0
    exact ⟨rfl, HT.out⟩
  | some c =>
    simp only [endOf]
    go_wp2
    simp [bodyPost]
    exact ⟨rfl, HT.out⟩
/-- What Catch leaves of it. -/
def CatchT (w : World) (g h : Nat) (P : Int × Option Int) (e : Ending) (w' : World) : Prop := e = .returned (.int .i64 (P.2.getD 0)) ∧ Two w g h P.1 P.1 w'
theorem catch24 (b g h : Nat) (A : Option Addr) (n c : Nat) (l : List (Int × Int)) (w : World) {y : Int} (h1 : Whole w b 22 #[.slice A n c]) (hL : Ps w (fun b => b ≠ g) A n l) (hg : Whole w g 3 #[.int .i64 0]) (hh : Whole w h 3 #[.int .i64 y]) (hne : g ≠ h) (hnc : n ≤ c) (hn : n ≤ 1000) (hc : c ≤ 9223372036854775807)
    (hp : ∀ p ∈ l, 1 ≤ p.2 ∧ p.2 ≤ 64) : Calls Try.prog 10 #[.func (.func 24) #[] #[.pointer (some ⟨b, 0, none⟩), .pointer (some ⟨g, 0, none⟩), .pointer (some ⟨h, 0, none⟩)]] w (CatchT w g h (runL l 0)) := by
  have hlen := hL.len
  have hr := fun o o' => call_any 26 _ (runL l 0).2 ((w.alloc o).alloc o') (Cnt _ g (runL l 0).1) (fun _ => by kernel_rfl) (clo26 b g (.slice A n c) _ (runL l 0).2 (Cnt _ g (runL l 0).1) ((h1.alloc o).alloc o')
    (run_any l.length l A n c g 0 _ (Nat.le_refl _) ((hL.alloc o).alloc o') hnc hn hc hp ((hg.alloc o).alloc o') (Int.le_refl _) (by omega)))
  generalize runL l 0 = P at hr
  have hgl := hg.lt
  have hhl := hh.lt
  have ha := clo24 b g h P _ (always_run _ g h P _ hne (by simp; omega) (hh.alloc (.cells #[.int .i64 0] 27)) (hr (.cells #[.int .i64 0] 27)))
  refine (catch_gen _ P.2 w (Two (w.alloc (.cells #[.int .i64 0] 27)) g h P.1 P.1) (call_any 24 _ P.2 _ (fun w' => Whole w' w.heap.size 27 #[.int .i64 0] ∧ Two (w.alloc (.cells #[.int .i64 0] 27)) g h P.1 P.1 w') (fun _ => by kernel_rfl) (ha.mono fun e w' hq => ⟨hq.1, hq.2.whole (Whole.new w 27 _ rfl) (by omega) (by omega), hq.2⟩))).mono ?_
  rintro e w'' ⟨rfl, w', hT, hA⟩
  refine ⟨rfl, ⟨hA.1.trans hT.1.1, hA.2.1.trans hT.1.2.1, hA.2.2.1.trans hT.1.2.2.1, ?_, fun k hk k1 k2 => ?_⟩, hA.whole hT.2.1 (by omega), hA.whole hT.2.2 (by omega)⟩
  · have e1 := hT.1.2.2.2.1
    have e2 := hA.size
    simp at e1
    omega
  · have e1 := hT.1.2.2.2.1
    simp at e1
    exact (hA.2.2.2.2 k (by omega) (by omega)).trans ((hT.1.2.2.2.2 k (by simp; omega) k1 k2).trans (Below.heap_alloc w _ k hk))
end Go.Proofs.Ytmmckhkiclifjaa
