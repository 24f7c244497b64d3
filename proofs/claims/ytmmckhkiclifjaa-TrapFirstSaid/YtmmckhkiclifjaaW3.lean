/- Try of a uint64. -/
import Derived.Test.YtmmckhkiclifjaaW2
namespace Go.Proofs.Ytmmckhkiclifjaa
open Go.RowKit

/-- What a relation keeps: the blocks from B on. -/
def Keep (B : Nat) (R : World → World → Prop) : Prop := ∀ a b, R a b → a.heap.size ≤ b.heap.size ∧ ∀ k t cs, B ≤ k → Whole a k t cs → Whole b k t cs
theorem keep_below (B : Nat) : Keep B fun a b => Below a.heap.size a b := fun _ _ h => ⟨h.size, fun _ _ _ _ hw => hw.below' h⟩
/-- What Try leaves: what it returns, and what its function did, within blocks of its own. -/
def TryP (w : World) (R : World → World → Prop) (v : Value) (c : Int) (e : Ending) (w' : World) : Prop := e = .returned (.tuple #[v, .int .i64 c]) ∧ ∃ w1 w2, Below w.heap.size w w1 ∧ R w1 w2 ∧ Below w.heap.size w2 w'

theorem tryUclo_ret (k : FuncId) (caps : Array Value) (x : Int) (p : Nat) (w : World) (R : World → World → Prop)
    (hcf : ∀ w, (callFunc k caps).run Try.prog w = .ok (.enter k caps) w) (h0 : Whole w p 39 #[.func (.func k) #[] caps]) (h1 : Whole w (p + 1) 35 #[.int .u64 0]) (h2 : Whole w (p + 2) 4 #[.bool true])
    (hK : Keep p R) (h : Calls Try.prog k caps w fun e w' => e = .returned (.int .u64 x) ∧ R w w') :
    Calls Try.prog 34 #[.pointer (some ⟨p, 0, none⟩), .pointer (some ⟨p + 1, 0, none⟩), .pointer (some ⟨p + 2, 0, none⟩)] w fun e w' => e = .returned (.tuple #[]) ∧ ∃ w1, R w w1 ∧ w' = (w1.setCell ⟨p + 1, 0, none⟩ (.int .u64 x)).setCell ⟨p + 2, 0, none⟩ (.bool false) := by
  have hne : ∀ w, (binOp .neq 39 (.func (.func k) #[] caps) .nilFunc).run Try.prog w = .ok (.bool true) w := fun _ => rfl
  have H := Lib.hid h
  clear h
  have c0 := h0.cell 0
  have f0 := h0.free 0
  go_enter Try.func34, Try.ntmps34
  go_wp2_with fail
  refine H.out.mono ?_
  rintro e w1 ⟨rfl, hR⟩
  have HR := Lib.hid hR
  have k1 := (hK _ _ hR).2 _ _ _ (by omega) h1
  have k2 := (hK _ _ hR).2 _ _ _ (by omega) h2
  have c1 := k1.cell 0
  have f1 := k1.free 0
  have g2 := k2.other (p := ⟨p + 1, 0, none⟩) (by show p + 2 ≠ p + 1; omega) (.int .u64 x)
  have c2 := g2.cell 0
  have f2 := g2.free 0
  clear hR k1 k2 g2
  go_wp2
  go_end0
  exact ⟨rfl, w1, HR.out, rfl⟩
theorem tryUclo_throw (k : FuncId) (caps : Array Value) (ch : List PanicEntry) (p : Nat) (w : World) (R : World → World → Prop)
    (hcf : ∀ w, (callFunc k caps).run Try.prog w = .ok (.enter k caps) w) (h0 : Whole w p 39 #[.func (.func k) #[] caps])
    (h : Calls Try.prog k caps w fun e w' => e = .panicked ch ∧ R w w') :
    Calls Try.prog 34 #[.pointer (some ⟨p, 0, none⟩), .pointer (some ⟨p + 1, 0, none⟩), .pointer (some ⟨p + 2, 0, none⟩)] w fun e w' => e = .panicked ch ∧ R w w' := by
  have hne : ∀ w, (binOp .neq 39 (.func (.func k) #[] caps) .nilFunc).run Try.prog w = .ok (.bool true) w := fun _ => rfl
  have H := Lib.hid h
  clear h
  have c0 := h0.cell 0
  have f0 := h0.free 0
  go_enter Try.func34, Try.ntmps34
  go_wp2_with fail
  refine H.out.mono ?_
  rintro e w1 ⟨rfl, hR⟩
  have HR := Lib.hid hR
  clear hR
  go_wp2
  simp [bodyPost]
  exact HR.out
theorem tryU_ret (k : FuncId) (caps : Array Value) (x : Int) (w : World) (R : World → World → Prop)
    (hcf : ∀ w, (callFunc k caps).run Try.prog w = .ok (.enter k caps) w) (hK : Keep w.heap.size R) (h : ∀ w', Below w.heap.size w w' → Calls Try.prog k caps w' fun e w'' => e = .returned (.int .u64 x) ∧ R w' w'') :
    Calls Try.prog 15 #[.func (.func k) #[] caps] w (TryP w R (.int .u64 x) 0) := by
  have hmf : ∀ (fn : Fn) (first cap : Array Value) (w : World), (Instr.makeFunc fn first cap).run Try.prog w = .ok (.func fn first cap) w := fun _ _ _ _ => rfl
  have H := Lib.hid h
  have HK := Lib.hid hK
  clear h hK
  go_enter Try.func15, Try.ntmps15
  go_wp2_with fail
  obtain ⟨W, hW⟩ : ∃ W, ((w.alloc (.cells #[.func (.func k) #[] caps] 39)).alloc (.cells #[.int .u64 0] 35)).alloc (.cells #[.bool true] 4) = W := ⟨_, rfl⟩
  have hs : W.heap.size = w.heap.size + 3 := by rw [← hW]; simp
  have b0 : Whole W w.heap.size 39 #[.func (.func k) #[] caps] := hW ▸ ((Whole.new w 39 _ rfl).alloc _).alloc _
  have b1 : Whole W (w.heap.size + 1) 35 #[.int .u64 0] := hW ▸ (Whole.new _ 35 _ (by simp)).alloc _
  have b2 : Whole W (w.heap.size + 2) 4 #[.bool true] := hW ▸ Whole.new _ 4 _ (by simp)
  have bB : Below w.heap.size w W := hW ▸ (((Below.refl _ _).alloc (Nat.le_refl _) _).alloc (by simp) _).alloc (by simp; omega) _
  rw [hW, show w.heap.size + 1 + 1 = w.heap.size + 2 from rfl]
  clear hW
  have B0 := Lib.hid b0
  have B1 := Lib.hid b1
  have B2 := Lib.hid b2
  have BB := Lib.hid bB
  have HS := Lib.hid hs
  clear b0 b1 b2 bB hs
  refine (catch_ret _ W (fun w' => ∃ w1, R (W.alloc (.cells #[.int .i64 0] 27)) w1 ∧ w' = (w1.setCell ⟨w.heap.size + 1, 0, none⟩ (.int .u64 x)).setCell ⟨w.heap.size + 2, 0, none⟩ (.bool false))
    ((call_ret 34 _ _ _ (fun _ => by kernel_rfl) ((tryUclo_ret k caps x w.heap.size _ R hcf (B0.out.alloc _) (B1.out.alloc _) (B2.out.alloc _) HK.out (H.out _ (BB.out.alloc (by rw [HS.out]; omega) _))).mono ?_)))).mono ?_
  · rintro e w' ⟨rfl, w1, hR, rfl⟩
    exact ⟨rfl, ((((HK.out _ _ hR).2 _ _ _ (by rw [HS.out]; omega) (Whole.new W 27 #[.int .i64 0] rfl)).other (by show W.heap.size ≠ w.heap.size + 1; rw [HS.out]; omega) _).other (by show W.heap.size ≠ w.heap.size + 2; rw [HS.out]; omega) _), w1, hR, rfl⟩
  rintro e w2 ⟨rfl, w', ⟨w1, hR, rfl⟩, hA⟩
  have k1 : Whole w1 (w.heap.size + 1) 35 #[.int .u64 0] := (HK.out _ _ hR).2 _ _ _ (by omega) (B1.out.alloc _)
  have k2 : Whole w1 (w.heap.size + 2) 4 #[.bool true] := (HK.out _ _ hR).2 _ _ _ (by omega) (B2.out.alloc _)
  have hz := (HK.out _ _ hR).1
  simp only [show ∀ (w : World) o, (w.alloc o).heap.size = w.heap.size + 1 from fun w o => by simp, HS.out] at hz
  have m1 : Whole w2 (w.heap.size + 1) 35 #[.int .u64 x] := hA.whole ((k1.put 0 (.int .u64 x) rfl).other (by show w.heap.size + 1 ≠ w.heap.size + 2; omega) _) (by rw [HS.out]; omega)
  have m2 : Whole w2 (w.heap.size + 2) 4 #[.bool false] := hA.whole ((k2.other (by show w.heap.size + 2 ≠ w.heap.size + 1; omega) _).put 0 (.bool false) rfl) (by rw [HS.out]; omega)
  have HE := Lib.hid (show ∃ w1 w2', Below w.heap.size w w1 ∧ R w1 w2' ∧ Below w.heap.size w2' w2 from
    ⟨_, w1, BB.out.alloc (by rw [HS.out]; omega) _, hR, hA.below (((Below.refl _ _).setCell (by show w.heap.size ≤ w.heap.size + 1; omega) _).setCell (by show w.heap.size ≤ w.heap.size + 2; omega) _) (by rw [HS.out]; omega) (by simp; omega)⟩)
  have c1 := m1.cell 0
  have f1 := m1.free 0
  have c2 := m2.cell 0
  have f2 := m2.free 0
  clear hR hA k1 k2 m1 m2
  go_wp2
  simp [bodyPost, results, Try.results15, go_sem]
  exact ⟨rfl, HE.out⟩
theorem tryU_throw (k : FuncId) (caps : Array Value) (c : Int) (w : World) (R : World → World → Prop)
    (hcf : ∀ w, (callFunc k caps).run Try.prog w = .ok (.enter k caps) w) (hK : Keep w.heap.size R) (h : ∀ w', Below w.heap.size w w' → Calls Try.prog k caps w' fun e w'' => e = .panicked [{ v := fault c, recovered := false }] ∧ R w' w'') :
    Calls Try.prog 15 #[.func (.func k) #[] caps] w (TryP w R (.int .u64 0) c) := by
  have hmf : ∀ (fn : Fn) (first cap : Array Value) (w : World), (Instr.makeFunc fn first cap).run Try.prog w = .ok (.func fn first cap) w := fun _ _ _ _ => rfl
  have H := Lib.hid h
  have HK := Lib.hid hK
  clear h hK
  go_enter Try.func15, Try.ntmps15
  go_wp2_with fail
  obtain ⟨W, hW⟩ : ∃ W, ((w.alloc (.cells #[.func (.func k) #[] caps] 39)).alloc (.cells #[.int .u64 0] 35)).alloc (.cells #[.bool true] 4) = W := ⟨_, rfl⟩
  have hs : W.heap.size = w.heap.size + 3 := by rw [← hW]; simp
  have b0 : Whole W w.heap.size 39 #[.func (.func k) #[] caps] := hW ▸ ((Whole.new w 39 _ rfl).alloc _).alloc _
  have b2 : Whole W (w.heap.size + 2) 4 #[.bool true] := hW ▸ Whole.new _ 4 _ (by simp)
  have bB : Below w.heap.size w W := hW ▸ (((Below.refl _ _).alloc (Nat.le_refl _) _).alloc (by simp) _).alloc (by simp; omega) _
  rw [hW, show w.heap.size + 1 + 1 = w.heap.size + 2 from rfl]
  clear hW
  have B0 := Lib.hid b0
  have B2 := Lib.hid b2
  have BB := Lib.hid bB
  have HS := Lib.hid hs
  clear b0 b2 bB hs
  refine (catch_throw _ c W (fun w' => R (W.alloc (.cells #[.int .i64 0] 27)) w')
    ((call_throw 34 _ _ _ _ (fun _ => by kernel_rfl) ((tryUclo_throw k caps _ w.heap.size _ R hcf (B0.out.alloc _) (H.out _ (BB.out.alloc (by rw [HS.out]; omega) _))).mono ?_)))).mono ?_
  · rintro e w' ⟨rfl, hR⟩
    exact ⟨rfl, (HK.out _ _ hR).2 _ _ _ (by rw [HS.out]; omega) (Whole.new W 27 #[.int .i64 0] rfl), hR⟩
  rintro e w2 ⟨rfl, w1, hR, hA⟩
  have k2 : Whole w1 (w.heap.size + 2) 4 #[.bool true] := (HK.out _ _ hR).2 _ _ _ (by omega) (B2.out.alloc _)
  have hz := (HK.out _ _ hR).1
  simp only [show ∀ (w : World) o, (w.alloc o).heap.size = w.heap.size + 1 from fun w o => by simp, HS.out] at hz
  have m2 : Whole w2 (w.heap.size + 2) 4 #[.bool true] := hA.whole k2 (by rw [HS.out]; omega)
  have HE := Lib.hid (show ∃ w1 w2', Below w.heap.size w w1 ∧ R w1 w2' ∧ Below w.heap.size w2' w2 from
    ⟨_, w1, BB.out.alloc (by rw [HS.out]; omega) _, hR, hA.below (Below.refl _ _) (by rw [HS.out]; omega) (by omega)⟩)
  have c2 := m2.cell 0
  have f2 := m2.free 0
  clear hR hA k2 m2
  go_wp2
  simp [bodyPost, results, Try.results15, go_sem]
  exact ⟨rfl, HE.out⟩

end Go.Proofs.Ytmmckhkiclifjaa
