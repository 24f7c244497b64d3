/- Try of a descriptor. -/
import Derived.Test.YtafdflpjfdeohaaD2
namespace Go.Proofs.Ytafdflpjfdeohaa
open Go.RowKit

abbrev tl (x y z : Int) (b : Bool) : Value := .agg #[.int .u32 x, .int .i64 y, .int .i64 z, .bool b]
def CloP (R : World → World → Prop) (base pv pb : Nat) (w : World) (x y z : Int) (b : Bool) (e : Ending) (w' : World) : Prop :=
  e = .returned (.tuple #[]) ∧ Whole w' pv 24 #[.int .u32 x, .int .i64 y, .int .i64 z, .bool b] ∧ Whole w' pb 4 #[.bool false] ∧ (∀ k t cs, base ≤ k → k ≠ pv → k ≠ pb → Whole w k t cs → Whole w' k t cs) ∧ ∃ w1, R w w1 ∧ Below base w1 w'
theorem tclo_ret (k : FuncId) (caps : Array Value) (x y z : Int) (b : Bool) (base pf pv pb : Nat) (w : World) (R : World → World → Prop) {cs : Array Value} {v : Value}
    (hcf : ∀ w, (callFunc k caps).run Try.prog w = .ok (.enter k caps) w) (h0 : Whole w pf 42 #[.func (.func k) #[] caps]) (h1 : Whole w pv 24 cs) (h1s : cs.size = 4) (h2 : Whole w pb 4 #[v]) (hv : base ≤ pv) (hb : base ≤ pb) (hne : pv ≠ pb) (hK : Keep base R)
    (h : Calls Try.prog k caps w fun e w' => e = .returned (tl x y z b) ∧ R w w') :
    Calls Try.prog 24 #[.pointer (some ⟨pf, 0, none⟩), .pointer (some ⟨pv, 0, none⟩), .pointer (some ⟨pb, 0, none⟩)] w (CloP R base pv pb w x y z b) := by
  have hnp := hne
  have hne : ∀ w, (binOp .neq 42 (.func (.func k) #[] caps) .nilFunc).run Try.prog w = .ok (.bool true) w := fun _ => rfl
  have H := Lib.hid h
  clear h
  have c0 := h0.cell 0
  have f0 := h0.free 0
  have hlv := h1.lt
  have hlb := h2.lt
  go_enter Try.func24, Try.ntmps24
  go_wp2_with fail
  refine H.out.mono ?_
  rintro e w1 ⟨rfl, hR⟩
  have HR := Lib.hid hR
  have k1 := (hK _ _ hR).2 _ _ _ hv h1
  have k2 := (hK _ _ hR).2 _ _ _ hb h2
  have hz := (hK _ _ hR).1
  have HK := Lib.hid hK
  have K1 := Lib.hid k1
  have K2 := Lib.hid k2
  have v0 := k1.cell 0
  have v1 := k1.cell 1
  have v2 := k1.cell 2
  have v3 := k1.cell 3
  have g0 := k1.free 0
  have g1 := k1.free 1
  have g2 := k1.free 2
  have g3 := k1.free 3
  obtain ⟨cs⟩ := cs
  obtain ⟨e0, e1, e2, e3, rfl⟩ : ∃ a b c d, cs = [a, b, c, d] := by
    match cs, h1s with
    | [a, b, c, d], _ => exact ⟨a, b, c, d, rfl⟩
  simp at v0 v1 v2 v3
  have c2 := k2.cell 0
  have f2 := k2.free 0
  clear hR k1 k2
  go_wp2
  go_end0
  refine ⟨rfl, ?_, ?_, fun k t cs hk0 hk1 hk2 hw => ?_, w1, HR.out, ?_⟩
  · have h4 := ((((K1.out.put 0 (.int .u32 x) rfl).put 1 (.int .i64 y) rfl).put 2 (.int .i64 z) rfl).put 3 (.bool b) rfl)
    exact h4.other (by show pv ≠ pb; exact hnp) _
  · exact (((((K2.out.other (by show pb ≠ pv; exact hnp.symm) _).other (by show pb ≠ pv; exact hnp.symm) _).other (by show pb ≠ pv; exact hnp.symm) _).other (by show pb ≠ pv; exact hnp.symm) _).put 0 (.bool false) rfl)
  · have h0 := (HK.out _ _ HR.out).2 _ _ _ hk0 hw
    exact (((((h0.other (by show k ≠ pv; exact hk1) _).other (by show k ≠ pv; exact hk1) _).other (by show k ≠ pv; exact hk1) _).other (by show k ≠ pv; exact hk1) _).other (by show k ≠ pb; exact hk2) _)
  · exact (((((Below.refl base w1).setCell (by show base ≤ pv; exact hv) _).setCell (by show base ≤ pv; exact hv) _).setCell (by show base ≤ pv; exact hv) _).setCell (by show base ≤ pv; exact hv) _).setCell (by show base ≤ pb; exact hb) _
theorem tclo_throw (k : FuncId) (caps : Array Value) (ch : List PanicEntry) (pf pv pb : Nat) (w : World) (R : World → World → Prop)
    (hcf : ∀ w, (callFunc k caps).run Try.prog w = .ok (.enter k caps) w) (h0 : Whole w pf 42 #[.func (.func k) #[] caps])
    (h : Calls Try.prog k caps w fun e w' => e = .panicked ch ∧ R w w') :
    Calls Try.prog 24 #[.pointer (some ⟨pf, 0, none⟩), .pointer (some ⟨pv, 0, none⟩), .pointer (some ⟨pb, 0, none⟩)] w fun e w' => e = .panicked ch ∧ R w w' := by
  have hne : ∀ w, (binOp .neq 42 (.func (.func k) #[] caps) .nilFunc).run Try.prog w = .ok (.bool true) w := fun _ => rfl
  have H := Lib.hid h
  clear h
  have c0 := h0.cell 0
  have f0 := h0.free 0
  go_enter Try.func24, Try.ntmps24
  go_wp2_with fail
  refine H.out.mono ?_
  rintro e w1 ⟨rfl, hR⟩
  have HR := Lib.hid hR
  clear hR
  go_wp2
  simp [bodyPost]
  exact HR.out
def ZT : Array Value := #[.int .u32 0, .int .i64 0, .int .i64 0, .bool false]
def TryT (R : World → World → Prop) (w : World) (x y z : Int) (b : Bool) (c : Int) (e : Ending) (w' : World) : Prop := e = .returned (.tuple #[tl x y z b, .int .i64 c]) ∧ ∃ w1 w2, Below w.heap.size w w1 ∧ R w1 w2 ∧ Below w.heap.size w2 w'
set_option maxHeartbeats 2000000 in
theorem tryT_ret (k : FuncId) (caps : Array Value) (x y z : Int) (b : Bool) (w : World) (R : World → World → Prop)
    (hcf : ∀ w, (callFunc k caps).run Try.prog w = .ok (.enter k caps) w) (hK : Keep w.heap.size R) (h : ∀ w', Below w.heap.size w w' → Calls Try.prog k caps w' fun e w'' => e = .returned (tl x y z b) ∧ R w' w'') :
    Calls Try.prog 13 #[.func (.func k) #[] caps] w (TryT R w x y z b 0) := by
  have hmf : ∀ (fn : Fn) (first cap : Array Value) (w : World), (Instr.makeFunc fn first cap).run Try.prog w = .ok (.func fn first cap) w := fun _ _ _ _ => rfl
  have H := Lib.hid h
  have HK := Lib.hid hK
  clear h hK
  go_enter Try.func13, Try.ntmps13
  go_wp2_with fail
  obtain ⟨W, hW⟩ : ∃ W, ((((w.alloc (.cells #[.func (.func k) #[] caps] 42)).alloc (.cells #[.int .u32 0, .int .i64 0, .int .i64 0, .bool false] 24)).alloc (.cells #[.int .u32 0, .int .i64 0, .int .i64 0, .bool false] 24)).alloc (.cells #[.int .u32 0, .int .i64 0, .int .i64 0, .bool false] 24)).alloc (.cells #[.bool true] 4) = W := ⟨_, rfl⟩
  have hs : W.heap.size = w.heap.size + 5 := by rw [← hW]; simp
  have b0 : Whole W w.heap.size 42 #[.func (.func k) #[] caps] := hW ▸ ((((Whole.new w 42 _ rfl).alloc _).alloc _).alloc _).alloc _
  have b1 : Whole W (w.heap.size + 1) 24 #[.int .u32 0, .int .i64 0, .int .i64 0, .bool false] := hW ▸ (((Whole.new _ 24 _ (by simp)).alloc _).alloc _).alloc _
  have b2 : Whole W (w.heap.size + 2) 24 #[.int .u32 0, .int .i64 0, .int .i64 0, .bool false] := hW ▸ ((Whole.new _ 24 _ (by simp)).alloc _).alloc _
  have b3 : Whole W (w.heap.size + 3) 24 #[.int .u32 0, .int .i64 0, .int .i64 0, .bool false] := hW ▸ (Whole.new _ 24 _ (by simp)).alloc _
  have b4 : Whole W (w.heap.size + 4) 4 #[.bool true] := hW ▸ Whole.new _ 4 _ (by simp)
  have bB : Below w.heap.size w W := hW ▸ (((((Below.refl _ _).alloc (Nat.le_refl _) _).alloc (by simp) _).alloc (by simp; omega) _).alloc (by simp; omega) _).alloc (by simp; omega) _
  rw [hW, show w.heap.size + 1 + 1 + 1 + 1 = w.heap.size + 4 from rfl, show w.heap.size + 1 + 1 + 1 = w.heap.size + 3 from rfl, show w.heap.size + 1 + 1 = w.heap.size + 2 from rfl]
  clear hW
  have B0 := Lib.hid b0
  have B1 := Lib.hid b1
  have B2 := Lib.hid b2
  have B3 := Lib.hid b3
  have B4 := Lib.hid b4
  have BB := Lib.hid bB
  have HS := Lib.hid hs
  clear b0 b1 b2 b3 b4 bB hs
  refine (catch_ret _ W (fun w' => Whole w' (w.heap.size + 2) 24 #[.int .u32 x, .int .i64 y, .int .i64 z, .bool b] ∧ Whole w' (w.heap.size + 4) 4 #[.bool false] ∧ Whole w' (w.heap.size + 1) 24 #[.int .u32 0, .int .i64 0, .int .i64 0, .bool false] ∧ ∃ w1, R (W.alloc (.cells #[.int .i64 0] 28)) w1 ∧ Below w.heap.size w1 w')
    (call_ret 24 _ _ _ (fun _ => by kernel_rfl) ((tclo_ret k caps x y z b w.heap.size w.heap.size (w.heap.size + 2) (w.heap.size + 4) _ R hcf (B0.out.alloc _) (B2.out.alloc _) rfl (B4.out.alloc _) (by omega) (by omega) (by omega) HK.out (H.out _ (BB.out.alloc (by rw [HS.out]; omega) _))).mono ?_))).mono ?_
  · rintro e w' ⟨rfl, k1, k2, k3, w1, k4, k5⟩
    exact ⟨rfl, k3 W.heap.size 28 _ (by rw [HS.out]; omega) (by rw [HS.out]; omega) (by rw [HS.out]; omega) (Whole.new W 28 #[.int .i64 0] rfl), k1, k2, k3 (w.heap.size + 1) _ _ (by omega) (by omega) (by omega) (B1.out.alloc _), w1, k4, k5⟩
  rintro e w2 ⟨rfl, w', ⟨q1, q2, q3, w1, hR, q4⟩, hA⟩
  have hsz := (HK.out _ _ hR).1
  have hsz2 := q4.size
  have HRR := Lib.hid hR
  have HB := Lib.hid (hA.below q4 (by rw [HS.out]; omega) (by simp [HS.out] at hsz; omega))
  have m1 := hA.whole q1 (by rw [HS.out]; omega)
  have m2 := hA.whole q2 (by rw [HS.out]; omega)
  have m3 := hA.whole q3 (by rw [HS.out]; omega)
  have M3 := Lib.hid m3
  have v0 := m1.cell 0
  have v1 := m1.cell 1
  have v2 := m1.cell 2
  have v3 := m1.cell 3
  have c2 := m2.cell 0
  have f2 := m2.free 0
  have u0 := m3.cell 0
  have u1 := m3.cell 1
  have u2 := m3.cell 2
  have u3 := m3.cell 3
  have g0 := m3.free 0
  have g1 := m3.free 1
  have g2 := m3.free 2
  have g3 := m3.free 3
  simp at v0 v1 v2 v3 u0 u1 u2 u3
  have HM := Lib.hid (((((m3.put 0 (.int .u32 x) rfl).put 1 (.int .i64 y) rfl).put 2 (.int .i64 z) rfl).put 3 (.bool b) rfl))
  have h0 := HM.out.cell 0
  have h1 := HM.out.cell 1
  have h2 := HM.out.cell 2
  have h3 := HM.out.cell 3
  clear q1 q2 q3 q4 hA m1 m2 m3 hR hsz hsz2
  go_wp2
  simp at h0 h1 h2 h3
  simp [bodyPost, results, Try.results13, go_sem, h0, h1, h2, h3]
  exact ⟨rfl, _, w1, BB.out.alloc (by rw [HS.out]; omega) _, HRR.out, (((HB.out.setCell (by show w.heap.size ≤ w.heap.size + 1; omega) _).setCell (by show w.heap.size ≤ w.heap.size + 1; omega) _).setCell (by show w.heap.size ≤ w.heap.size + 1; omega) _).setCell (by show w.heap.size ≤ w.heap.size + 1; omega) _⟩
set_option maxHeartbeats 2000000 in
theorem tryT_throw (k : FuncId) (caps : Array Value) (c : Int) (w : World) (R : World → World → Prop)
    (hcf : ∀ w, (callFunc k caps).run Try.prog w = .ok (.enter k caps) w) (hK : Keep w.heap.size R) (h : ∀ w', Below w.heap.size w w' → Calls Try.prog k caps w' fun e w'' => e = .panicked [{ v := fault c, recovered := false }] ∧ R w' w'') :
    Calls Try.prog 13 #[.func (.func k) #[] caps] w (TryT R w 0 0 0 false c) := by
  have hmf : ∀ (fn : Fn) (first cap : Array Value) (w : World), (Instr.makeFunc fn first cap).run Try.prog w = .ok (.func fn first cap) w := fun _ _ _ _ => rfl
  have H := Lib.hid h
  have HK := Lib.hid hK
  clear h hK
  go_enter Try.func13, Try.ntmps13
  go_wp2_with fail
  obtain ⟨W, hW⟩ : ∃ W, ((((w.alloc (.cells #[.func (.func k) #[] caps] 42)).alloc (.cells #[.int .u32 0, .int .i64 0, .int .i64 0, .bool false] 24)).alloc (.cells #[.int .u32 0, .int .i64 0, .int .i64 0, .bool false] 24)).alloc (.cells #[.int .u32 0, .int .i64 0, .int .i64 0, .bool false] 24)).alloc (.cells #[.bool true] 4) = W := ⟨_, rfl⟩
  have hs : W.heap.size = w.heap.size + 5 := by rw [← hW]; simp
  have b0 : Whole W w.heap.size 42 #[.func (.func k) #[] caps] := hW ▸ ((((Whole.new w 42 _ rfl).alloc _).alloc _).alloc _).alloc _
  have b1 : Whole W (w.heap.size + 1) 24 #[.int .u32 0, .int .i64 0, .int .i64 0, .bool false] := hW ▸ (((Whole.new _ 24 _ (by simp)).alloc _).alloc _).alloc _
  have b2 : Whole W (w.heap.size + 2) 24 #[.int .u32 0, .int .i64 0, .int .i64 0, .bool false] := hW ▸ ((Whole.new _ 24 _ (by simp)).alloc _).alloc _
  have b3 : Whole W (w.heap.size + 3) 24 #[.int .u32 0, .int .i64 0, .int .i64 0, .bool false] := hW ▸ (Whole.new _ 24 _ (by simp)).alloc _
  have b4 : Whole W (w.heap.size + 4) 4 #[.bool true] := hW ▸ Whole.new _ 4 _ (by simp)
  have bB : Below w.heap.size w W := hW ▸ (((((Below.refl _ _).alloc (Nat.le_refl _) _).alloc (by simp) _).alloc (by simp; omega) _).alloc (by simp; omega) _).alloc (by simp; omega) _
  rw [hW, show w.heap.size + 1 + 1 + 1 + 1 = w.heap.size + 4 from rfl, show w.heap.size + 1 + 1 + 1 = w.heap.size + 3 from rfl, show w.heap.size + 1 + 1 = w.heap.size + 2 from rfl]
  clear hW
  have B0 := Lib.hid b0
  have B1 := Lib.hid b1
  have B2 := Lib.hid b2
  have B3 := Lib.hid b3
  have B4 := Lib.hid b4
  have BB := Lib.hid bB
  have HS := Lib.hid hs
  clear b0 b1 b2 b3 b4 bB hs
  refine (catch_throw _ c W (fun w' => Whole w' (w.heap.size + 3) 24 #[.int .u32 0, .int .i64 0, .int .i64 0, .bool false] ∧ Whole w' (w.heap.size + 4) 4 #[.bool true] ∧ Whole w' (w.heap.size + 1) 24 #[.int .u32 0, .int .i64 0, .int .i64 0, .bool false] ∧ ∃ w1, R (W.alloc (.cells #[.int .i64 0] 28)) w1 ∧ Below w.heap.size w1 w')
    (call_throw 24 _ _ _ _ (fun _ => by kernel_rfl) ((tclo_throw k caps _ w.heap.size (w.heap.size + 2) (w.heap.size + 4) _ R hcf (B0.out.alloc _) (H.out _ (BB.out.alloc (by rw [HS.out]; omega) _))).mono ?_))).mono ?_
  · rintro e w' ⟨rfl, hb⟩
    have kp := (HK.out _ _ hb).2
    exact ⟨rfl, kp _ _ _ (by rw [HS.out]; omega) (Whole.new W 28 #[.int .i64 0] rfl), kp _ _ _ (by omega) (B3.out.alloc _), kp _ _ _ (by omega) (B4.out.alloc _), kp _ _ _ (by omega) (B1.out.alloc _), w', hb, Below.refl _ _⟩
  rintro e w2 ⟨rfl, w', ⟨q1, q2, q3, w1, hR, q4⟩, hA⟩
  have hsz := (HK.out _ _ hR).1
  have hsz2 := q4.size
  have HRR := Lib.hid hR
  have HB := Lib.hid (hA.below q4 (by rw [HS.out]; omega) (by simp [HS.out] at hsz; omega))
  have m1 := hA.whole q1 (by rw [HS.out]; omega)
  have m2 := hA.whole q2 (by rw [HS.out]; omega)
  have m3 := hA.whole q3 (by rw [HS.out]; omega)
  have M3 := Lib.hid m3
  have v0 := m1.cell 0
  have v1 := m1.cell 1
  have v2 := m1.cell 2
  have v3 := m1.cell 3
  have c2 := m2.cell 0
  have f2 := m2.free 0
  have u0 := m3.cell 0
  have u1 := m3.cell 1
  have u2 := m3.cell 2
  have u3 := m3.cell 3
  have g0 := m3.free 0
  have g1 := m3.free 1
  have g2 := m3.free 2
  have g3 := m3.free 3
  simp at v0 v1 v2 v3 u0 u1 u2 u3
  have HM := Lib.hid (((((m3.put 0 (.int .u32 0) rfl).put 1 (.int .i64 0) rfl).put 2 (.int .i64 0) rfl).put 3 (.bool false) rfl))
  have h0 := HM.out.cell 0
  have h1 := HM.out.cell 1
  have h2 := HM.out.cell 2
  have h3 := HM.out.cell 3
  clear q1 q2 q3 q4 hA m1 m2 m3 hR hsz hsz2
  go_wp2
  simp at h0 h1 h2 h3
  simp [bodyPost, results, Try.results13, go_sem, h0, h1, h2, h3]
  exact ⟨rfl, _, w1, BB.out.alloc (by rw [HS.out]; omega) _, HRR.out, (((HB.out.setCell (by show w.heap.size ≤ w.heap.size + 1; omega) _).setCell (by show w.heap.size ≤ w.heap.size + 1; omega) _).setCell (by show w.heap.size ≤ w.heap.size + 1; omega) _).setCell (by show w.heap.size ≤ w.heap.size + 1; omega) _⟩
end Go.Proofs.Ytafdflpjfdeohaa
