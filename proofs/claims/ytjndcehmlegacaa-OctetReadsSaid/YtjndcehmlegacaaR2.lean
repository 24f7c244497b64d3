/- Try of bytes; the reader. -/
import Derived.Test.YtjndcehmlegacaaR1
import Derived.BigQuiet
namespace Go.Proofs.Ytjndcehmlegacaa
open Go.RowKit

/-- What a relation keeps: the blocks from B on. -/
def Keep (B : Nat) (R : World → World → Prop) : Prop := ∀ a b, R a b → a.heap.size ≤ b.heap.size ∧ ∀ k t cs, B ≤ k → Whole a k t cs → Whole b k t cs
theorem keep_below (B : Nat) : Keep B fun a b => Below a.heap.size a b := fun _ _ h => ⟨h.size, fun _ _ _ _ hw => hw.below' h⟩
/-- What Try leaves: what it returns, and what its function did, within blocks of its own. -/
def TryP (w : World) (R : World → World → Prop) (v : Value) (c : Int) (e : Ending) (w' : World) : Prop := e = .returned (.tuple #[v, .int .i64 c]) ∧ ∃ w1 w2, Below w.heap.size w w1 ∧ R w1 w2 ∧ Below w.heap.size w2 w'

theorem tryBclo_ret (k : FuncId) (caps : Array Value) (n : Nat) (p : Nat) (w : World) (R : Option Addr → Nat → World → World → Prop)
    (hcf : ∀ w, (callFunc k caps).run Try.prog w = .ok (.enter k caps) w) (h0 : Whole w p 60 #[.func (.func k) #[] caps]) (h1 : Whole w (p + 1) 22 #[.slice none 0 0]) (h2 : Whole w (p + 2) 4 #[.bool true])
    (hK : ∀ A c, Keep p (R A c)) (h : Calls Try.prog k caps w fun e w' => ∃ A c, e = .returned (.slice A n c) ∧ R A c w w') :
    Calls Try.prog 30 #[.pointer (some ⟨p, 0, none⟩), .pointer (some ⟨p + 1, 0, none⟩), .pointer (some ⟨p + 2, 0, none⟩)] w fun e w' => e = .returned (.tuple #[]) ∧ ∃ A c w1, R A c w w1 ∧ w' = (w1.setCell ⟨p + 1, 0, none⟩ (.slice A n c)).setCell ⟨p + 2, 0, none⟩ (.bool false) := by
  have hne : ∀ w, (binOp .neq 60 (.func (.func k) #[] caps) .nilFunc).run Try.prog w = .ok (.bool true) w := fun _ => rfl
  have H := Lib.hid h
  clear h
  have c0 := h0.cell 0
  have f0 := h0.free 0
  go_enter Try.func30, Try.ntmps30
  go_wp2_with fail
  refine H.out.mono ?_
  rintro e w1 ⟨A, c, rfl, hR⟩
  have HR := Lib.hid hR
  have k1 := (hK _ _ _ _ hR).2 _ _ _ (by omega) h1
  have k2 := (hK _ _ _ _ hR).2 _ _ _ (by omega) h2
  have c1 := k1.cell 0
  have f1 := k1.free 0
  have g2 := k2.other (p := ⟨p + 1, 0, none⟩) (by show p + 2 ≠ p + 1; omega) (.slice A n c)
  have c2 := g2.cell 0
  have f2 := g2.free 0
  clear hR k1 k2 g2
  go_wp2
  go_end0
  exact ⟨rfl, A, c, w1, HR.out, rfl⟩
theorem tryBclo_throw (k : FuncId) (caps : Array Value) (ch : List PanicEntry) (p : Nat) (w : World) (R : World → World → Prop)
    (hcf : ∀ w, (callFunc k caps).run Try.prog w = .ok (.enter k caps) w) (h0 : Whole w p 60 #[.func (.func k) #[] caps])
    (h : Calls Try.prog k caps w fun e w' => e = .panicked ch ∧ R w w') :
    Calls Try.prog 30 #[.pointer (some ⟨p, 0, none⟩), .pointer (some ⟨p + 1, 0, none⟩), .pointer (some ⟨p + 2, 0, none⟩)] w fun e w' => e = .panicked ch ∧ R w w' := by
  have hne : ∀ w, (binOp .neq 60 (.func (.func k) #[] caps) .nilFunc).run Try.prog w = .ok (.bool true) w := fun _ => rfl
  have H := Lib.hid h
  clear h
  have c0 := h0.cell 0
  have f0 := h0.free 0
  go_enter Try.func30, Try.ntmps30
  go_wp2_with fail
  refine H.out.mono ?_
  rintro e w1 ⟨rfl, hR⟩
  have HR := Lib.hid hR
  clear hR
  go_wp2
  simp [bodyPost]
  exact HR.out
def TryB (w : World) (n : Nat) (R : Option Addr → Nat → World → World → Prop) (e : Ending) (w' : World) : Prop := ∃ A c, e = .returned (.tuple #[.slice A n c, .int .i64 0]) ∧ ∃ w1 w2, Below w.heap.size w w1 ∧ R A c w1 w2 ∧ Below w.heap.size w2 w' ∧ ∀ k, w1.heap.size ≤ k → k < w2.heap.size → w'.heap[k]? = w2.heap[k]?
theorem tryB_ret (k : FuncId) (caps : Array Value) (n : Nat) (w : World) (R : Option Addr → Nat → World → World → Prop)
    (hcf : ∀ w, (callFunc k caps).run Try.prog w = .ok (.enter k caps) w) (hK : ∀ A c, Keep w.heap.size (R A c)) (h : ∀ w', Below w.heap.size w w' → Calls Try.prog k caps w' fun e w'' => ∃ A c, e = .returned (.slice A n c) ∧ R A c w' w'') :
    Calls Try.prog 24 #[.func (.func k) #[] caps] w (TryB w n R) := by
  have hmf : ∀ (fn : Fn) (first cap : Array Value) (w : World), (Instr.makeFunc fn first cap).run Try.prog w = .ok (.func fn first cap) w := fun _ _ _ _ => rfl
  have H := Lib.hid h
  have HK := Lib.hid hK
  clear h hK
  go_enter Try.func24, Try.ntmps24
  go_wp2_with fail
  obtain ⟨W, hW⟩ : ∃ W, ((w.alloc (.cells #[.func (.func k) #[] caps] 60)).alloc (.cells #[.slice none 0 0] 22)).alloc (.cells #[.bool true] 4) = W := ⟨_, rfl⟩
  have hs : W.heap.size = w.heap.size + 3 := by rw [← hW]; simp
  have b0 : Whole W w.heap.size 60 #[.func (.func k) #[] caps] := hW ▸ ((Whole.new w 60 _ rfl).alloc _).alloc _
  have b1 : Whole W (w.heap.size + 1) 22 #[.slice none 0 0] := hW ▸ (Whole.new _ 22 _ (by simp)).alloc _
  have b2 : Whole W (w.heap.size + 2) 4 #[.bool true] := hW ▸ Whole.new _ 4 _ (by simp)
  have bB : Below w.heap.size w W := hW ▸ (((Below.refl _ _).alloc (Nat.le_refl _) _).alloc (by simp) _).alloc (by simp; omega) _
  rw [hW, show w.heap.size + 1 + 1 = w.heap.size + 2 from rfl]
  clear hW
  have B0 := Lib.hid b0
  have B1 := Lib.hid b1
  have B2 := Lib.hid b2
  have BB := Lib.hid bB
  have HS := Lib.hid hs
  clear b0 b1 b2 bB hs
  refine (catch_ret _ W (fun w' => ∃ A c w1, R A c (W.alloc (.cells #[.int .i64 0] 44)) w1 ∧ w' = (w1.setCell ⟨w.heap.size + 1, 0, none⟩ (.slice A n c)).setCell ⟨w.heap.size + 2, 0, none⟩ (.bool false))
    ((call_ret 30 _ _ _ (fun _ => by kernel_rfl) ((tryBclo_ret k caps n w.heap.size _ R hcf (B0.out.alloc _) (B1.out.alloc _) (B2.out.alloc _) HK.out (H.out _ (BB.out.alloc (by rw [HS.out]; omega) _))).mono ?_)))).mono ?_
  · rintro e w' ⟨rfl, A, c, w1, hR, rfl⟩
    exact ⟨rfl, ((((HK.out _ _ _ _ hR).2 _ _ _ (by rw [HS.out]; omega) (Whole.new W 44 #[.int .i64 0] rfl)).other (by show W.heap.size ≠ w.heap.size + 1; rw [HS.out]; omega) _).other (by show W.heap.size ≠ w.heap.size + 2; rw [HS.out]; omega) _), A, c, w1, hR, rfl⟩
  rintro e w2 ⟨rfl, w', ⟨A, c, w1, hR, rfl⟩, hA⟩
  have k1 : Whole w1 (w.heap.size + 1) 22 #[.slice none 0 0] := (HK.out _ _ _ _ hR).2 _ _ _ (by omega) (B1.out.alloc _)
  have k2 : Whole w1 (w.heap.size + 2) 4 #[.bool true] := (HK.out _ _ _ _ hR).2 _ _ _ (by omega) (B2.out.alloc _)
  have hz := (HK.out _ _ _ _ hR).1
  simp only [show ∀ (w : World) o, (w.alloc o).heap.size = w.heap.size + 1 from fun w o => by simp, HS.out] at hz
  have m1 : Whole w2 (w.heap.size + 1) 22 #[.slice A n c] := hA.whole ((k1.put 0 (.slice A n c) rfl).other (by show w.heap.size + 1 ≠ w.heap.size + 2; omega) _) (by rw [HS.out]; omega)
  have m2 : Whole w2 (w.heap.size + 2) 4 #[.bool false] := hA.whole ((k2.other (by show w.heap.size + 2 ≠ w.heap.size + 1; omega) _).put 0 (.bool false) rfl) (by rw [HS.out]; omega)
  have HE := Lib.hid (show ∃ w1 w2', Below w.heap.size w w1 ∧ R A c w1 w2' ∧ Below w.heap.size w2' w2 ∧ ∀ k, w1.heap.size ≤ k → k < w2'.heap.size → w2.heap[k]? = w2'.heap[k]? from
    ⟨_, w1, BB.out.alloc (by rw [HS.out]; omega) _, hR, hA.below (((Below.refl _ _).setCell (by show w.heap.size ≤ w.heap.size + 1; omega) _).setCell (by show w.heap.size ≤ w.heap.size + 2; omega) _) (by rw [HS.out]; omega) (by simp; omega), fun k k1 k2 => by
      have k3 : w.heap.size + 4 ≤ k := by have := HS.out; simp at k1; omega
      exact (hA.2.2.2.2 k (by simpa using k2) (by have := HS.out; omega)).trans ((Below.heap_setCell _ _ _ k (by show k ≠ w.heap.size + 2; omega)).trans (Below.heap_setCell _ _ _ k (by show k ≠ w.heap.size + 1; omega)))⟩)
  have c1 := m1.cell 0
  have f1 := m1.free 0
  have c2 := m2.cell 0
  have f2 := m2.free 0
  clear hR hA k1 k2 m1 m2
  go_wp2
  simp [bodyPost, results, Try.results24, go_sem]
  exact ⟨A, c, rfl, HE.out⟩
theorem tryB_throw (k : FuncId) (caps : Array Value) (c : Int) (w : World) (R : World → World → Prop)
    (hcf : ∀ w, (callFunc k caps).run Try.prog w = .ok (.enter k caps) w) (hK : Keep w.heap.size R) (h : ∀ w', Below w.heap.size w w' → Calls Try.prog k caps w' fun e w'' => e = .panicked [{ v := fault c, recovered := false }] ∧ R w' w'') :
    Calls Try.prog 24 #[.func (.func k) #[] caps] w (TryP w R (.slice none 0 0) c) := by
  have hmf : ∀ (fn : Fn) (first cap : Array Value) (w : World), (Instr.makeFunc fn first cap).run Try.prog w = .ok (.func fn first cap) w := fun _ _ _ _ => rfl
  have H := Lib.hid h
  have HK := Lib.hid hK
  clear h hK
  go_enter Try.func24, Try.ntmps24
  go_wp2_with fail
  obtain ⟨W, hW⟩ : ∃ W, ((w.alloc (.cells #[.func (.func k) #[] caps] 60)).alloc (.cells #[.slice none 0 0] 22)).alloc (.cells #[.bool true] 4) = W := ⟨_, rfl⟩
  have hs : W.heap.size = w.heap.size + 3 := by rw [← hW]; simp
  have b0 : Whole W w.heap.size 60 #[.func (.func k) #[] caps] := hW ▸ ((Whole.new w 60 _ rfl).alloc _).alloc _
  have b2 : Whole W (w.heap.size + 2) 4 #[.bool true] := hW ▸ Whole.new _ 4 _ (by simp)
  have bB : Below w.heap.size w W := hW ▸ (((Below.refl _ _).alloc (Nat.le_refl _) _).alloc (by simp) _).alloc (by simp; omega) _
  rw [hW, show w.heap.size + 1 + 1 = w.heap.size + 2 from rfl]
  clear hW
  have B0 := Lib.hid b0
  have B2 := Lib.hid b2
  have BB := Lib.hid bB
  have HS := Lib.hid hs
  clear b0 b2 bB hs
  refine (catch_throw _ c W (fun w' => R (W.alloc (.cells #[.int .i64 0] 44)) w')
    ((call_throw 30 _ _ _ _ (fun _ => by kernel_rfl) ((tryBclo_throw k caps _ w.heap.size _ R hcf (B0.out.alloc _) (H.out _ (BB.out.alloc (by rw [HS.out]; omega) _))).mono ?_)))).mono ?_
  · rintro e w' ⟨rfl, hR⟩
    exact ⟨rfl, (HK.out _ _ hR).2 _ _ _ (by rw [HS.out]; omega) (Whole.new W 44 #[.int .i64 0] rfl), hR⟩
  rintro e w2 ⟨rfl, w1, hR, hA⟩
  have k2 : Whole w1 (w.heap.size + 2) 4 #[.bool true] := (HK.out _ _ hR).2 _ _ _ (by omega) (B2.out.alloc _)
  have hz := (HK.out _ _ hR).1
  simp only [show ∀ (w : World) o, (w.alloc o).heap.size = w.heap.size + 1 from fun w o => by simp, HS.out] at hz
  have m2 : Whole w2 (w.heap.size + 2) 4 #[.bool true] := hA.whole k2 (by rw [HS.out]; omega)
  have HE := Lib.hid (show ∃ w1 w2', Below w.heap.size w w1 ∧ R w1 w2' ∧ Below w.heap.size w2' w2 from
    ⟨_, w1, BB.out.alloc (by rw [HS.out]; omega) _, hR, hA.below (Below.refl _ _) (by rw [HS.out]; omega) (by omega)⟩)
  have c2 := m2.cell 0
  have f2 := m2.free 0
  clear hR hA k2 m2
  go_wp2
  simp [bodyPost, results, Try.results24, go_sem]
  exact ⟨rfl, HE.out⟩

/-- The reader's block: its bytes, and where it is. -/
def Rdr (w : World) (g : Nat) (A : Option Addr) (n c : Nat) (bs : List UInt8) (p : Nat) : Prop := Whole w g 55 #[.slice A n c, .int .i64 p] ∧ Bs w (fun b => b ≠ g) A n bs
theorem Rdr.below {w w' : World} {g n c p : Nat} {A : Option Addr} {bs : List UInt8} (h : Rdr w g A n c bs p) (hb : Below w.heap.size w w') : Rdr w' g A n c bs p := ⟨h.1.below' hb, h.2.below hb⟩
def At (w : World) (p : Int) (e : Ending) (w' : World) : Prop := e = .returned (.int .i64 p) ∧ Below w.heap.size w w'
theorem at_any (g : Nat) (A : Option Addr) (n c : Nat) (bs : List UInt8) (p : Nat) (w : World) (h : Rdr w g A n c bs p) : Calls Try.prog 19 #[.pointer (some ⟨g, 0, none⟩)] w fun e w' => e = .returned (.int .i64 p) ∧ w = w' := by
  have c1 := h.1.cell 1
  have f1 := h.1.free 1
  clear h
  go_enter Try.func19, Try.ntmps19
  go_wp2
  go_ret
  exact ⟨rfl, rfl⟩
theorem left_any (g : Nat) (A : Option Addr) (n c : Nat) (bs : List UInt8) (p : Nat) (w : World) (h : Rdr w g A n c bs p) (hp : p ≤ n) (hn : n ≤ 140737488355328) : Calls Try.prog 20 #[.pointer (some ⟨g, 0, none⟩)] w (At w ((n : Int) - p)) := by
  have c0 := h.1.cell 0
  have f0 := h.1.free 0
  have c1 := h.1.cell 1
  have f1 := h.1.free 1
  clear h
  go_enter Try.func20, Try.ntmps20
  go_wp2_with fail
  go_quiet (fail)
  go_wp2
  go_ret
  exact ⟨rfl, rfl, rfl, rfl, Nat.le_refl _, fun _ _ => rfl⟩
end Go.Proofs.Ytjndcehmlegacaa
