/- The first of functions that has an error. -/
import Derived.Test.YtmmckhkiclifjaaW10
namespace Go.Proofs.Ytmmckhkiclifjaa
open Go.RowKit

theorem tryEclo_ret (k : FuncId) (caps : Array Value) (x : Int) (p : Nat) (w : World) (R : World → World → Prop)
    (hcf : ∀ w, (callFunc k caps).run Try.prog w = .ok (.enter k caps) w) (h0 : Whole w p 47 #[.func (.func k) #[] caps]) (h1 : Whole w (p + 1) 27 #[.int .i64 0]) (h2 : Whole w (p + 2) 4 #[.bool true])
    (hK : Keep p R) (h : Calls Try.prog k caps w fun e w' => e = .returned (.int .i64 x) ∧ R w w') :
    Calls Try.prog 37 #[.pointer (some ⟨p, 0, none⟩), .pointer (some ⟨p + 1, 0, none⟩), .pointer (some ⟨p + 2, 0, none⟩)] w fun e w' => e = .returned (.tuple #[]) ∧ ∃ w1, R w w1 ∧ w' = (w1.setCell ⟨p + 1, 0, none⟩ (.int .i64 x)).setCell ⟨p + 2, 0, none⟩ (.bool false) := by
  have hne : ∀ w, (binOp .neq 47 (.func (.func k) #[] caps) .nilFunc).run Try.prog w = .ok (.bool true) w := fun _ => rfl
  have H := Lib.hid h
  clear h
  have c0 := h0.cell 0
  have f0 := h0.free 0
  go_enter Try.func37, Try.ntmps37
  go_wp2_with fail
  refine H.out.mono ?_
  rintro e w1 ⟨rfl, hR⟩
  have HR := Lib.hid hR
  have k1 := (hK _ _ hR).2 _ _ _ (by omega) h1
  have k2 := (hK _ _ hR).2 _ _ _ (by omega) h2
  have c1 := k1.cell 0
  have f1 := k1.free 0
  have g2 := k2.other (p := ⟨p + 1, 0, none⟩) (by show p + 2 ≠ p + 1; omega) (.int .i64 x)
  have c2 := g2.cell 0
  have f2 := g2.free 0
  clear hR k1 k2 g2
  go_wp2
  go_end0
  exact ⟨rfl, w1, HR.out, rfl⟩
theorem tryEclo_throw (k : FuncId) (caps : Array Value) (ch : List PanicEntry) (p : Nat) (w : World) (R : World → World → Prop)
    (hcf : ∀ w, (callFunc k caps).run Try.prog w = .ok (.enter k caps) w) (h0 : Whole w p 47 #[.func (.func k) #[] caps])
    (h : Calls Try.prog k caps w fun e w' => e = .panicked ch ∧ R w w') :
    Calls Try.prog 37 #[.pointer (some ⟨p, 0, none⟩), .pointer (some ⟨p + 1, 0, none⟩), .pointer (some ⟨p + 2, 0, none⟩)] w fun e w' => e = .panicked ch ∧ R w w' := by
  have hne : ∀ w, (binOp .neq 47 (.func (.func k) #[] caps) .nilFunc).run Try.prog w = .ok (.bool true) w := fun _ => rfl
  have H := Lib.hid h
  clear h
  have c0 := h0.cell 0
  have f0 := h0.free 0
  go_enter Try.func37, Try.ntmps37
  go_wp2_with fail
  refine H.out.mono ?_
  rintro e w1 ⟨rfl, hR⟩
  have HR := Lib.hid hR
  clear hR
  go_wp2
  simp [bodyPost]
  exact HR.out
theorem tryE_ret (k : FuncId) (caps : Array Value) (x : Int) (w : World) (R : World → World → Prop)
    (hcf : ∀ w, (callFunc k caps).run Try.prog w = .ok (.enter k caps) w) (hK : Keep w.heap.size R) (h : ∀ w', Below w.heap.size w w' → Calls Try.prog k caps w' fun e w'' => e = .returned (.int .i64 x) ∧ R w' w'') :
    Calls Try.prog 35 #[.func (.func k) #[] caps] w (TryP w R (.int .i64 x) 0) := by
  have hmf : ∀ (fn : Fn) (first cap : Array Value) (w : World), (Instr.makeFunc fn first cap).run Try.prog w = .ok (.func fn first cap) w := fun _ _ _ _ => rfl
  have H := Lib.hid h
  have HK := Lib.hid hK
  clear h hK
  go_enter Try.func35, Try.ntmps35
  go_wp2_with fail
  obtain ⟨W, hW⟩ : ∃ W, ((w.alloc (.cells #[.func (.func k) #[] caps] 47)).alloc (.cells #[.int .i64 0] 27)).alloc (.cells #[.bool true] 4) = W := ⟨_, rfl⟩
  have hs : W.heap.size = w.heap.size + 3 := by rw [← hW]; simp
  have b0 : Whole W w.heap.size 47 #[.func (.func k) #[] caps] := hW ▸ ((Whole.new w 47 _ rfl).alloc _).alloc _
  have b1 : Whole W (w.heap.size + 1) 27 #[.int .i64 0] := hW ▸ (Whole.new _ 27 _ (by simp)).alloc _
  have b2 : Whole W (w.heap.size + 2) 4 #[.bool true] := hW ▸ Whole.new _ 4 _ (by simp)
  have bB : Below w.heap.size w W := hW ▸ (((Below.refl _ _).alloc (Nat.le_refl _) _).alloc (by simp) _).alloc (by simp; omega) _
  rw [hW, show w.heap.size + 1 + 1 = w.heap.size + 2 from rfl]
  clear hW
  have B0 := Lib.hid b0
  have B1 := Lib.hid b1
  have B2 := Lib.hid b2
  have BB := Lib.hid bB
  have HS := Lib.hid hs
  clear b0 b1 b2 bB hs
  refine (catch_ret _ W (fun w' => ∃ w1, R (W.alloc (.cells #[.int .i64 0] 27)) w1 ∧ w' = (w1.setCell ⟨w.heap.size + 1, 0, none⟩ (.int .i64 x)).setCell ⟨w.heap.size + 2, 0, none⟩ (.bool false))
    ((call_ret 37 _ _ _ (fun _ => by kernel_rfl) ((tryEclo_ret k caps x w.heap.size _ R hcf (B0.out.alloc _) (B1.out.alloc _) (B2.out.alloc _) HK.out (H.out _ (BB.out.alloc (by rw [HS.out]; omega) _))).mono ?_)))).mono ?_
  · rintro e w' ⟨rfl, w1, hR, rfl⟩
    exact ⟨rfl, ((((HK.out _ _ hR).2 _ _ _ (by rw [HS.out]; omega) (Whole.new W 27 #[.int .i64 0] rfl)).other (by show W.heap.size ≠ w.heap.size + 1; rw [HS.out]; omega) _).other (by show W.heap.size ≠ w.heap.size + 2; rw [HS.out]; omega) _), w1, hR, rfl⟩
  rintro e w2 ⟨rfl, w', ⟨w1, hR, rfl⟩, hA⟩
  have k1 : Whole w1 (w.heap.size + 1) 27 #[.int .i64 0] := (HK.out _ _ hR).2 _ _ _ (by omega) (B1.out.alloc _)
  have k2 : Whole w1 (w.heap.size + 2) 4 #[.bool true] := (HK.out _ _ hR).2 _ _ _ (by omega) (B2.out.alloc _)
  have hz := (HK.out _ _ hR).1
  simp only [show ∀ (w : World) o, (w.alloc o).heap.size = w.heap.size + 1 from fun w o => by simp, HS.out] at hz
  have m1 : Whole w2 (w.heap.size + 1) 27 #[.int .i64 x] := hA.whole ((k1.put 0 (.int .i64 x) rfl).other (by show w.heap.size + 1 ≠ w.heap.size + 2; omega) _) (by rw [HS.out]; omega)
  have m2 : Whole w2 (w.heap.size + 2) 4 #[.bool false] := hA.whole ((k2.other (by show w.heap.size + 2 ≠ w.heap.size + 1; omega) _).put 0 (.bool false) rfl) (by rw [HS.out]; omega)
  have HE := Lib.hid (show ∃ w1 w2', Below w.heap.size w w1 ∧ R w1 w2' ∧ Below w.heap.size w2' w2 from
    ⟨_, w1, BB.out.alloc (by rw [HS.out]; omega) _, hR, hA.below (((Below.refl _ _).setCell (by show w.heap.size ≤ w.heap.size + 1; omega) _).setCell (by show w.heap.size ≤ w.heap.size + 2; omega) _) (by rw [HS.out]; omega) (by simp; omega)⟩)
  have c1 := m1.cell 0
  have f1 := m1.free 0
  have c2 := m2.cell 0
  have f2 := m2.free 0
  clear hR hA k1 k2 m1 m2
  go_wp2
  simp [bodyPost, results, Try.results35, go_sem]
  exact ⟨rfl, HE.out⟩
theorem tryE_throw (k : FuncId) (caps : Array Value) (c : Int) (w : World) (R : World → World → Prop)
    (hcf : ∀ w, (callFunc k caps).run Try.prog w = .ok (.enter k caps) w) (hK : Keep w.heap.size R) (h : ∀ w', Below w.heap.size w w' → Calls Try.prog k caps w' fun e w'' => e = .panicked [{ v := fault c, recovered := false }] ∧ R w' w'') :
    Calls Try.prog 35 #[.func (.func k) #[] caps] w (TryP w R (.int .i64 0) c) := by
  have hmf : ∀ (fn : Fn) (first cap : Array Value) (w : World), (Instr.makeFunc fn first cap).run Try.prog w = .ok (.func fn first cap) w := fun _ _ _ _ => rfl
  have H := Lib.hid h
  have HK := Lib.hid hK
  clear h hK
  go_enter Try.func35, Try.ntmps35
  go_wp2_with fail
  obtain ⟨W, hW⟩ : ∃ W, ((w.alloc (.cells #[.func (.func k) #[] caps] 47)).alloc (.cells #[.int .i64 0] 27)).alloc (.cells #[.bool true] 4) = W := ⟨_, rfl⟩
  have hs : W.heap.size = w.heap.size + 3 := by rw [← hW]; simp
  have b0 : Whole W w.heap.size 47 #[.func (.func k) #[] caps] := hW ▸ ((Whole.new w 47 _ rfl).alloc _).alloc _
  have b2 : Whole W (w.heap.size + 2) 4 #[.bool true] := hW ▸ Whole.new _ 4 _ (by simp)
  have bB : Below w.heap.size w W := hW ▸ (((Below.refl _ _).alloc (Nat.le_refl _) _).alloc (by simp) _).alloc (by simp; omega) _
  rw [hW, show w.heap.size + 1 + 1 = w.heap.size + 2 from rfl]
  clear hW
  have B0 := Lib.hid b0
  have B2 := Lib.hid b2
  have BB := Lib.hid bB
  have HS := Lib.hid hs
  clear b0 b2 bB hs
  refine (catch_throw _ c W (fun w' => R (W.alloc (.cells #[.int .i64 0] 27)) w')
    ((call_throw 37 _ _ _ _ (fun _ => by kernel_rfl) ((tryEclo_throw k caps _ w.heap.size _ R hcf (B0.out.alloc _) (H.out _ (BB.out.alloc (by rw [HS.out]; omega) _))).mono ?_)))).mono ?_
  · rintro e w' ⟨rfl, hR⟩
    exact ⟨rfl, (HK.out _ _ hR).2 _ _ _ (by rw [HS.out]; omega) (Whole.new W 27 #[.int .i64 0] rfl), hR⟩
  rintro e w2 ⟨rfl, w1, hR, hA⟩
  have k2 : Whole w1 (w.heap.size + 2) 4 #[.bool true] := (HK.out _ _ hR).2 _ _ _ (by omega) (B2.out.alloc _)
  have hz := (HK.out _ _ hR).1
  simp only [show ∀ (w : World) o, (w.alloc o).heap.size = w.heap.size + 1 from fun w o => by simp, HS.out] at hz
  have m2 : Whole w2 (w.heap.size + 2) 4 #[.bool true] := hA.whole k2 (by rw [HS.out]; omega)
  have HE := Lib.hid (show ∃ w1 w2', Below w.heap.size w w1 ∧ R w1 w2' ∧ Below w.heap.size w2' w2 from
    ⟨_, w1, BB.out.alloc (by rw [HS.out]; omega) _, hR, hA.below (Below.refl _ _) (by rw [HS.out]; omega) (by omega)⟩)
  have c2 := m2.cell 0
  have f2 := m2.free 0
  clear hR hA k2 m2
  go_wp2
  simp [bodyPost, results, Try.results35, go_sem]
  exact ⟨rfl, HE.out⟩

def and6 (c : Int) : Int := bits .and .i64 c 63
def bad (p : Int × Int) : Bool := p.1 == 1 || (p.1 == 2 && and6 p.2 != 0)
def badCode (p : Int × Int) : Int := if p.1 = 1 then 1 + and6 p.2 else if p.1 = 2 then and6 p.2 else 0
/-- What the function of a step hands back. -/
def end21 (p : Int × Int) : Ending := if p.1 = 1 then .panicked [{ v := fault (1 + and6 p.2), recovered := false }] else .returned (.int .i64 (badCode p))
theorem bad_code (p : Int × Int) : (bad p = true → badCode p ≠ 0) ∧ (bad p = false → badCode p = 0 ∧ p.1 ≠ 1) := by
  have h := and63 p.2
  unfold bad badCode and6
  constructor
  · intro hb
    simp at hb
    rcases hb with hb | hb
    · rw [if_pos hb]; omega
    · rw [if_neg (by omega), if_pos hb.1]; exact hb.2
  · intro hb
    simp at hb
    refine ⟨?_, hb.1⟩
    rw [if_neg hb.1]
    split
    · exact hb.2 (by assumption)
    · rfl
theorem clo21 (g b : Nat) (x : Int) (p : Int × Int) (w : World) (h1 : Whole w g 3 #[.int .i64 x]) (h2 : Whole w b 45 #[.int .i64 p.1, .int .i64 p.2]) (hne : b ≠ g) (hx0 : 0 ≤ x) (hx1 : x ≤ 1000) :
    Calls Try.prog 21 #[.pointer (some ⟨g, 0, none⟩), .pointer (some ⟨b, 0, none⟩)] w fun e w' => e = end21 p ∧ Cnt w g (x + 1) w' := by
  have c1 := h1.cell 0
  have f1 := h1.free 0
  have hc : Cnt w g (x + 1) (w.setCell ⟨g, 0, none⟩ (.int .i64 (x + 1))) := ⟨(Alone.refl w g).put 0 _, h1.put 0 _ rfl⟩
  have k2 := h2.other (p := ⟨g, 0, none⟩) hne (.int .i64 (x + 1))
  have HC := Lib.hid hc
  have c2 := k2.cell 0
  have c3 := k2.cell 1
  have f2 := k2.free 0
  have f3 := k2.free 1
  have HCo := Lib.hid (code_any p.2)
  clear hc k2 h1 h2
  obtain ⟨k, c⟩ := p
  by_cases hk1 : k = 1
  · subst hk1
    go_enter Try.func21, Try.ntmps21
    go_wp2_with fail
    refine (HCo.out _).mono ?_
    rintro e w1 ⟨rfl, rfl⟩
    go_wp2_with fail
    refine (throw_any _ _).mono ?_
    rintro e w1 ⟨rfl, rfl⟩
    go_wp2
    simp [bodyPost]
    exact ⟨rfl, HC.out⟩
  by_cases hk2 : k = 2
  · subst hk2
    go_enter Try.func21, Try.ntmps21
    go_wp2
    go_ret
    exact ⟨rfl, HC.out⟩
  · have e1 : (k == 1) = false := by simpa using hk1
    have e2 : (k == 2) = false := by simpa using hk2
    have he : end21 (k, c) = .returned (.int .i64 0) := by simp [end21, badCode, hk1, hk2]
    rw [he]
    clear he hk1 hk2
    go_enter Try.func21, Try.ntmps21
    go_wp2
    go_ret
    exact ⟨rfl, HC.out⟩
theorem keep_cnt' (B g : Nat) (x : Int) (h : g < B) : Keep B fun a b => Cnt a g x b := fun _ _ hc => ⟨hc.1.size, fun _ _ _ hk hw => hc.1.whole hw (by omega)⟩
def TryV (w : World) (g : Nat) (x v c : Int) (e : Ending) (w' : World) : Prop := e = .returned (.tuple #[.int .i64 v, .int .i64 c]) ∧ Cnt w g x w'
theorem try21 (g b : Nat) (x : Int) (p : Int × Int) (w : World) (h1 : Whole w g 3 #[.int .i64 x]) (h2 : Whole w b 45 #[.int .i64 p.1, .int .i64 p.2]) (hne : b ≠ g) (hx0 : 0 ≤ x) (hx1 : x ≤ 1000) :
    Calls Try.prog 35 #[.func (.func 21) #[] #[.pointer (some ⟨g, 0, none⟩), .pointer (some ⟨b, 0, none⟩)]] w (TryV w g (x + 1) (if p.1 = 1 then 0 else badCode p) (if p.1 = 1 then badCode p else 0)) := by
  have hr := fun w' (hb : Below w.heap.size w w') => clo21 g b x p w' (h1.below' hb) (h2.below' hb) hne hx0 hx1
  have hgl := h1.lt
  have fin : ∀ w', (∃ w1 w2, Below w.heap.size w w1 ∧ Cnt w1 g (x + 1) w2 ∧ Below w.heap.size w2 w') → Cnt w g (x + 1) w' := by
    rintro w' ⟨w1, w2, b1, b2, b3⟩
    have e1 := b1.size
    exact ⟨⟨b3.os.trans (b2.1.1.trans b1.os), b3.tape.trans (b2.1.2.1.trans b1.tape), b3.output.trans (b2.1.2.2.1.trans b1.output), Nat.le_trans b1.size (Nat.le_trans b2.1.size b3.size), fun k hk hkg =>
      (b3.block k hk).trans ((b2.1.2.2.2.2 k (by omega) hkg).trans (b1.block k hk))⟩, b2.2.below b3 hgl⟩
  by_cases hp : p.1 = 1
  · simp only [end21, if_pos hp] at hr
    refine (tryE_throw 21 _ (1 + and6 p.2) w (fun a b => Cnt a g (x + 1) b) (fun _ => by kernel_rfl) (keep_cnt' _ _ _ hgl) hr).mono ?_
    rintro e w' ⟨rfl, hw⟩
    exact ⟨by rw [if_pos hp, if_pos hp]; simp [badCode, hp], fin _ hw⟩
  · simp only [end21, if_neg hp] at hr
    refine (tryE_ret 21 _ (badCode p) w (fun a b => Cnt a g (x + 1) b) (fun _ => by kernel_rfl) (keep_cnt' _ _ _ hgl) hr).mono ?_
    rintro e w' ⟨rfl, hw⟩
    exact ⟨by rw [if_neg hp, if_neg hp], fin _ hw⟩
end Go.Proofs.Ytmmckhkiclifjaa
