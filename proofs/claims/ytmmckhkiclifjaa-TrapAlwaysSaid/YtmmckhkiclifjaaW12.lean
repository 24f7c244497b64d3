/- What is caught, and tried, of steps. -/
import Derived.Test.YtmmckhkiclifjaaW11
namespace Go.Proofs.Ytmmckhkiclifjaa
open Go.RowKit

theorem tryIclo_ret (k : FuncId) (caps : Array Value) (x : Int) (p : Nat) (w : World) (R : World → World → Prop)
    (hcf : ∀ w, (callFunc k caps).run Try.prog w = .ok (.enter k caps) w) (h0 : Whole w p 33 #[.func (.func k) #[] caps]) (h1 : Whole w (p + 1) 3 #[.int .i64 0]) (h2 : Whole w (p + 2) 4 #[.bool true])
    (hK : Keep p R) (h : Calls Try.prog k caps w fun e w' => e = .returned (.int .i64 x) ∧ R w w') :
    Calls Try.prog 33 #[.pointer (some ⟨p, 0, none⟩), .pointer (some ⟨p + 1, 0, none⟩), .pointer (some ⟨p + 2, 0, none⟩)] w fun e w' => e = .returned (.tuple #[]) ∧ ∃ w1, R w w1 ∧ w' = (w1.setCell ⟨p + 1, 0, none⟩ (.int .i64 x)).setCell ⟨p + 2, 0, none⟩ (.bool false) := by
  have hne : ∀ w, (binOp .neq 33 (.func (.func k) #[] caps) .nilFunc).run Try.prog w = .ok (.bool true) w := fun _ => rfl
  have H := Lib.hid h
  clear h
  have c0 := h0.cell 0
  have f0 := h0.free 0
  go_enter Try.func33, Try.ntmps33
  go_wp2_with fail
  refine H.out.mono ?_
  rintro e w1 ⟨rfl, hR⟩
  have HR := Lib.hid hR
  have k1 := (hK _ _ hR).2 _ _ _ (by omega) h1
  have k2 := (hK _ _ hR).2 _ _ _ (by omega) h2
  have c1 := k1.cell 0
  have f1 := k1.free 0
  have g2 := k2.other (p := ⟨p + 1, 0, none⟩) (by show p + 2 ≠ p + 1; omega) (.int .i64 x)
  have c2 := g2.cell 0
  have f2 := g2.free 0
  clear hR k1 k2 g2
  go_wp2
  go_end0
  exact ⟨rfl, w1, HR.out, rfl⟩
theorem tryIclo_throw (k : FuncId) (caps : Array Value) (ch : List PanicEntry) (p : Nat) (w : World) (R : World → World → Prop)
    (hcf : ∀ w, (callFunc k caps).run Try.prog w = .ok (.enter k caps) w) (h0 : Whole w p 33 #[.func (.func k) #[] caps])
    (h : Calls Try.prog k caps w fun e w' => e = .panicked ch ∧ R w w') :
    Calls Try.prog 33 #[.pointer (some ⟨p, 0, none⟩), .pointer (some ⟨p + 1, 0, none⟩), .pointer (some ⟨p + 2, 0, none⟩)] w fun e w' => e = .panicked ch ∧ R w w' := by
  have hne : ∀ w, (binOp .neq 33 (.func (.func k) #[] caps) .nilFunc).run Try.prog w = .ok (.bool true) w := fun _ => rfl
  have H := Lib.hid h
  clear h
  have c0 := h0.cell 0
  have f0 := h0.free 0
  go_enter Try.func33, Try.ntmps33
  go_wp2_with fail
  refine H.out.mono ?_
  rintro e w1 ⟨rfl, hR⟩
  have HR := Lib.hid hR
  clear hR
  go_wp2
  simp [bodyPost]
  exact HR.out
theorem tryI_ret (k : FuncId) (caps : Array Value) (x : Int) (w : World) (R : World → World → Prop)
    (hcf : ∀ w, (callFunc k caps).run Try.prog w = .ok (.enter k caps) w) (hK : Keep w.heap.size R) (h : ∀ w', Below w.heap.size w w' → Calls Try.prog k caps w' fun e w'' => e = .returned (.int .i64 x) ∧ R w' w'') :
    Calls Try.prog 13 #[.func (.func k) #[] caps] w (TryP w R (.int .i64 x) 0) := by
  have hmf : ∀ (fn : Fn) (first cap : Array Value) (w : World), (Instr.makeFunc fn first cap).run Try.prog w = .ok (.func fn first cap) w := fun _ _ _ _ => rfl
  have H := Lib.hid h
  have HK := Lib.hid hK
  clear h hK
  go_enter Try.func13, Try.ntmps13
  go_wp2_with fail
  obtain ⟨W, hW⟩ : ∃ W, ((w.alloc (.cells #[.func (.func k) #[] caps] 33)).alloc (.cells #[.int .i64 0] 3)).alloc (.cells #[.bool true] 4) = W := ⟨_, rfl⟩
  have hs : W.heap.size = w.heap.size + 3 := by rw [← hW]; simp
  have b0 : Whole W w.heap.size 33 #[.func (.func k) #[] caps] := hW ▸ ((Whole.new w 33 _ rfl).alloc _).alloc _
  have b1 : Whole W (w.heap.size + 1) 3 #[.int .i64 0] := hW ▸ (Whole.new _ 3 _ (by simp)).alloc _
  have b2 : Whole W (w.heap.size + 2) 4 #[.bool true] := hW ▸ Whole.new _ 4 _ (by simp)
  have bB : Below w.heap.size w W := hW ▸ (((Below.refl _ _).alloc (Nat.le_refl _) _).alloc (by simp) _).alloc (by simp; omega) _
  rw [hW, show w.heap.size + 1 + 1 = w.heap.size + 2 from rfl]
  clear hW
  have B0 := Lib.hid b0
  have B1 := Lib.hid b1
  have B2 := Lib.hid b2
  have BB := Lib.hid bB
  have HS := Lib.hid hs
  clear b0 b1 b2 bB hs
  refine (catch_ret _ W (fun w' => ∃ w1, R (W.alloc (.cells #[.int .i64 0] 27)) w1 ∧ w' = (w1.setCell ⟨w.heap.size + 1, 0, none⟩ (.int .i64 x)).setCell ⟨w.heap.size + 2, 0, none⟩ (.bool false))
    ((call_ret 33 _ _ _ (fun _ => by kernel_rfl) ((tryIclo_ret k caps x w.heap.size _ R hcf (B0.out.alloc _) (B1.out.alloc _) (B2.out.alloc _) HK.out (H.out _ (BB.out.alloc (by rw [HS.out]; omega) _))).mono ?_)))).mono ?_
  · rintro e w' ⟨rfl, w1, hR, rfl⟩
    exact ⟨rfl, ((((HK.out _ _ hR).2 _ _ _ (by rw [HS.out]; omega) (Whole.new W 27 #[.int .i64 0] rfl)).other (by show W.heap.size ≠ w.heap.size + 1; rw [HS.out]; omega) _).other (by show W.heap.size ≠ w.heap.size + 2; rw [HS.out]; omega) _), w1, hR, rfl⟩
  rintro e w2 ⟨rfl, w', ⟨w1, hR, rfl⟩, hA⟩
  have k1 : Whole w1 (w.heap.size + 1) 3 #[.int .i64 0] := (HK.out _ _ hR).2 _ _ _ (by omega) (B1.out.alloc _)
  have k2 : Whole w1 (w.heap.size + 2) 4 #[.bool true] := (HK.out _ _ hR).2 _ _ _ (by omega) (B2.out.alloc _)
  have hz := (HK.out _ _ hR).1
  simp only [show ∀ (w : World) o, (w.alloc o).heap.size = w.heap.size + 1 from fun w o => by simp, HS.out] at hz
  have m1 : Whole w2 (w.heap.size + 1) 3 #[.int .i64 x] := hA.whole ((k1.put 0 (.int .i64 x) rfl).other (by show w.heap.size + 1 ≠ w.heap.size + 2; omega) _) (by rw [HS.out]; omega)
  have m2 : Whole w2 (w.heap.size + 2) 4 #[.bool false] := hA.whole ((k2.other (by show w.heap.size + 2 ≠ w.heap.size + 1; omega) _).put 0 (.bool false) rfl) (by rw [HS.out]; omega)
  have HE := Lib.hid (show ∃ w1 w2', Below w.heap.size w w1 ∧ R w1 w2' ∧ Below w.heap.size w2' w2 from
    ⟨_, w1, BB.out.alloc (by rw [HS.out]; omega) _, hR, hA.below (((Below.refl _ _).setCell (by show w.heap.size ≤ w.heap.size + 1; omega) _).setCell (by show w.heap.size ≤ w.heap.size + 2; omega) _) (by rw [HS.out]; omega) (by simp; omega)⟩)
  have c1 := m1.cell 0
  have f1 := m1.free 0
  have c2 := m2.cell 0
  have f2 := m2.free 0
  clear hR hA k1 k2 m1 m2
  go_wp2
  simp [bodyPost, results, Try.results13, go_sem]
  exact ⟨rfl, HE.out⟩
theorem tryI_throw (k : FuncId) (caps : Array Value) (c : Int) (w : World) (R : World → World → Prop)
    (hcf : ∀ w, (callFunc k caps).run Try.prog w = .ok (.enter k caps) w) (hK : Keep w.heap.size R) (h : ∀ w', Below w.heap.size w w' → Calls Try.prog k caps w' fun e w'' => e = .panicked [{ v := fault c, recovered := false }] ∧ R w' w'') :
    Calls Try.prog 13 #[.func (.func k) #[] caps] w (TryP w R (.int .i64 0) c) := by
  have hmf : ∀ (fn : Fn) (first cap : Array Value) (w : World), (Instr.makeFunc fn first cap).run Try.prog w = .ok (.func fn first cap) w := fun _ _ _ _ => rfl
  have H := Lib.hid h
  have HK := Lib.hid hK
  clear h hK
  go_enter Try.func13, Try.ntmps13
  go_wp2_with fail
  obtain ⟨W, hW⟩ : ∃ W, ((w.alloc (.cells #[.func (.func k) #[] caps] 33)).alloc (.cells #[.int .i64 0] 3)).alloc (.cells #[.bool true] 4) = W := ⟨_, rfl⟩
  have hs : W.heap.size = w.heap.size + 3 := by rw [← hW]; simp
  have b0 : Whole W w.heap.size 33 #[.func (.func k) #[] caps] := hW ▸ ((Whole.new w 33 _ rfl).alloc _).alloc _
  have b2 : Whole W (w.heap.size + 2) 4 #[.bool true] := hW ▸ Whole.new _ 4 _ (by simp)
  have bB : Below w.heap.size w W := hW ▸ (((Below.refl _ _).alloc (Nat.le_refl _) _).alloc (by simp) _).alloc (by simp; omega) _
  rw [hW, show w.heap.size + 1 + 1 = w.heap.size + 2 from rfl]
  clear hW
  have B0 := Lib.hid b0
  have B2 := Lib.hid b2
  have BB := Lib.hid bB
  have HS := Lib.hid hs
  clear b0 b2 bB hs
  refine (catch_throw _ c W (fun w' => R (W.alloc (.cells #[.int .i64 0] 27)) w')
    ((call_throw 33 _ _ _ _ (fun _ => by kernel_rfl) ((tryIclo_throw k caps _ w.heap.size _ R hcf (B0.out.alloc _) (H.out _ (BB.out.alloc (by rw [HS.out]; omega) _))).mono ?_)))).mono ?_
  · rintro e w' ⟨rfl, hR⟩
    exact ⟨rfl, (HK.out _ _ hR).2 _ _ _ (by rw [HS.out]; omega) (Whole.new W 27 #[.int .i64 0] rfl), hR⟩
  rintro e w2 ⟨rfl, w1, hR, hA⟩
  have k2 : Whole w1 (w.heap.size + 2) 4 #[.bool true] := (HK.out _ _ hR).2 _ _ _ (by omega) (B2.out.alloc _)
  have hz := (HK.out _ _ hR).1
  simp only [show ∀ (w : World) o, (w.alloc o).heap.size = w.heap.size + 1 from fun w o => by simp, HS.out] at hz
  have m2 : Whole w2 (w.heap.size + 2) 4 #[.bool true] := hA.whole k2 (by rw [HS.out]; omega)
  have HE := Lib.hid (show ∃ w1 w2', Below w.heap.size w w1 ∧ R w1 w2' ∧ Below w.heap.size w2' w2 from
    ⟨_, w1, BB.out.alloc (by rw [HS.out]; omega) _, hR, hA.below (Below.refl _ _) (by rw [HS.out]; omega) (by omega)⟩)
  have c2 := m2.cell 0
  have f2 := m2.free 0
  clear hR hA k2 m2
  go_wp2
  simp [bodyPost, results, Try.results13, go_sem]
  exact ⟨rfl, HE.out⟩

theorem clo11 (b g : Nat) (v : Value) (w : World) (o : Option Int) (R : World → Prop) (h1 : Whole w b 22 #[v]) (h : Calls Try.prog 12 #[v, .pointer (some ⟨g, 0, none⟩)] w fun e w' => e = endOf o ∧ R w') :
    Calls Try.prog 11 #[.pointer (some ⟨b, 0, none⟩), .pointer (some ⟨g, 0, none⟩)] w fun e w' => e = endOf o ∧ R w' := by
  have H := Lib.hid h
  have c1 := h1.cell 0
  have f1 := h1.free 0
  clear h h1
  go_enter Try.func11, Try.ntmps11
  go_wp2_with fail
  refine H.out.mono ?_
  rintro e w1 ⟨rfl, hR⟩
  have HR := Lib.hid hR
  clear hR
  cases o with
  | none =>
    simp only [endOf]
    go_wp2
    go_end0
    exact ⟨rfl, HR.out⟩
  | some c =>
    simp only [endOf]
    go_wp2
    simp [bodyPost]
    exact ⟨rfl, HR.out⟩
theorem clo26 (b g : Nat) (v : Value) (w : World) (o : Option Int) (R : World → Prop) (h1 : Whole w b 22 #[v]) (h : Calls Try.prog 12 #[v, .pointer (some ⟨g, 0, none⟩)] w fun e w' => e = endOf o ∧ R w') :
    Calls Try.prog 26 #[.pointer (some ⟨b, 0, none⟩), .pointer (some ⟨g, 0, none⟩)] w fun e w' => e = endOf o ∧ R w' := by
  have H := Lib.hid h
  have c1 := h1.cell 0
  have f1 := h1.free 0
  clear h h1
  go_enter Try.func26, Try.ntmps26
  go_wp2_with fail
  refine H.out.mono ?_
  rintro e w1 ⟨rfl, hR⟩
  have HR := Lib.hid hR
  clear hR
  cases o with
  | none =>
    simp only [endOf]
    go_wp2
    go_end0
    exact ⟨rfl, HR.out⟩
  | some c =>
    simp only [endOf]
    go_wp2
    simp [bodyPost]
    exact ⟨rfl, HR.out⟩
def end14 (P : Int × Option Int) : Ending := match P.2 with
  | none => .returned (.int .i64 (P.1 + 1))
  | some c => .panicked [{ v := fault c, recovered := false }]
theorem clo14 (b g : Nat) (v : Value) (w : World) (P : Int × Option Int) (h1 : Whole w b 22 #[v]) (hp0 : 0 ≤ P.1) (hp1 : P.1 ≤ 1000000000) (h : Calls Try.prog 12 #[v, .pointer (some ⟨g, 0, none⟩)] w (RunP w g P)) :
    Calls Try.prog 14 #[.pointer (some ⟨b, 0, none⟩), .pointer (some ⟨g, 0, none⟩)] w fun e w' => e = end14 P ∧ Cnt w g P.1 w' := by
  have H := Lib.hid h
  have c1 := h1.cell 0
  have f1 := h1.free 0
  clear h h1
  obtain ⟨x, o⟩ := P
  simp only at hp0 hp1
  go_enter Try.func14, Try.ntmps14
  go_wp2_with fail
  refine H.out.mono ?_
  rintro e w1 ⟨rfl, hR⟩
  have HR := Lib.hid hR
  have c2 := hR.2.cell 0
  have f2 := hR.2.free 0
  clear hR
  cases o with
  | none =>
    simp only [endOf]
    go_wp2
    go_ret
    exact ⟨rfl, HR.out⟩
  | some c =>
    simp only [endOf]
    go_wp2
    simp [bodyPost]
    exact ⟨rfl, HR.out⟩
def valOf (P : Int × Option Int) : Int := match P.2 with
  | none => P.1 + 1
  | some _ => 0
theorem valOf_none (x : Int) : valOf (x, none) = x + 1 := rfl
theorem valOf_some (x c : Int) : valOf (x, some c) = 0 := rfl
def TryQ (w : World) (g : Nat) (P : Int × Option Int) (e : Ending) (w' : World) : Prop :=
  e = .returned (.tuple #[.int .i64 (valOf P), .int .i64 (P.2.getD 0)]) ∧ Alone w w' g
theorem keep_cnt (B g : Nat) (x : Int) (h : g < B) : Keep B fun a b => Cnt a g x b := fun _ _ hc => ⟨hc.1.size, fun _ _ _ hk hw => hc.1.whole hw (by omega)⟩
theorem try14 (b g : Nat) (A : Option Addr) (n c : Nat) (l : List (Int × Int)) (w : World) (h1 : Whole w b 22 #[.slice A n c]) (hL : Ps w (fun b => b ≠ g) A n l) (hg : Whole w g 3 #[.int .i64 0]) (hnc : n ≤ c) (hn : n ≤ 1000) (hc : c ≤ 9223372036854775807)
    (hp : ∀ p ∈ l, 1 ≤ p.2 ∧ p.2 ≤ 64) : Calls Try.prog 13 #[.func (.func 14) #[] #[.pointer (some ⟨b, 0, none⟩), .pointer (some ⟨g, 0, none⟩)]] w (TryQ w g (runL l 0)) := by
  have hbd := runL_bounds l.length l 0 (Nat.le_refl _)
  have hlen := hL.len
  have hr := fun w' (hb : Below w.heap.size w w') => clo14 b g (.slice A n c) w' (runL l 0) (h1.below' hb) (by omega) (by omega) (run_any l.length l A n c g 0 w' (Nat.le_refl _) (hL.below hb) hnc hn hc hp (hg.below' hb) (Int.le_refl _) (by omega))
  have hgl := hg.lt
  have fin : ∀ x w', (∃ w1 w2, Below w.heap.size w w1 ∧ Cnt w1 g x w2 ∧ Below w.heap.size w2 w') → Alone w w' g := by
    rintro x w' ⟨w1, w2, b1, b2, b3⟩
    have e1 := b1.size
    exact ⟨b3.os.trans (b2.1.1.trans b1.os), b3.tape.trans (b2.1.2.1.trans b1.tape), b3.output.trans (b2.1.2.2.1.trans b1.output), Nat.le_trans b1.size (Nat.le_trans b2.1.size b3.size), fun k hk hkg =>
      (b3.block k hk).trans ((b2.1.2.2.2.2 k (by omega) hkg).trans (b1.block k hk))⟩
  generalize runL l 0 = P at hr
  obtain ⟨x, o⟩ := P
  cases o with
  | none =>
    refine (tryI_ret 14 _ (x + 1) w (fun a b => Cnt a g x b) (fun _ => by kernel_rfl) (keep_cnt _ _ _ hgl) hr).mono ?_
    rintro e w' ⟨rfl, hw⟩
    exact ⟨rfl, fin _ _ hw⟩
  | some c0 =>
    refine (tryI_throw 14 _ c0 w (fun a b => Cnt a g x b) (fun _ => by kernel_rfl) (keep_cnt _ _ _ hgl) hr).mono ?_
    rintro e w' ⟨rfl, hw⟩
    exact ⟨rfl, fin _ _ hw⟩
theorem catch11 (b g : Nat) (A : Option Addr) (n c : Nat) (l : List (Int × Int)) (w : World) (h1 : Whole w b 22 #[.slice A n c]) (hL : Ps w (fun b => b ≠ g) A n l) (hg : Whole w g 3 #[.int .i64 0]) (hnc : n ≤ c) (hn : n ≤ 1000) (hc : c ≤ 9223372036854775807)
    (hp : ∀ p ∈ l, 1 ≤ p.2 ∧ p.2 ≤ 64) : Calls Try.prog 10 #[.func (.func 11) #[] #[.pointer (some ⟨b, 0, none⟩), .pointer (some ⟨g, 0, none⟩)]] w (CatchC w g (runL l 0)) := by
  have hlen := hL.len
  exact catch32 _ g _ w hg.lt (call_any 11 _ _ _ (Cnt _ g (runL l 0).1) (fun _ => by kernel_rfl) (clo11 b g (.slice A n c) _ (runL l 0).2 (Cnt _ g (runL l 0).1) (h1.alloc _)
    (run_any l.length l A n c g 0 _ (Nat.le_refl _) (hL.alloc _) hnc hn hc hp (hg.alloc _) (Int.le_refl _) (by omega))))
end Go.Proofs.Ytmmckhkiclifjaa
