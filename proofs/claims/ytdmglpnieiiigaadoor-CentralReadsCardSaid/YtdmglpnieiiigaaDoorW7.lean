/- Parse where nothing is left, and out of range. -/
import Derived.Test.YtdmglpnieiiigaaDoorV8
import Derived.Test.YtdmglpnieiiigaaDoorV7
import Derived.Test.YtdmglpnieiiigaaDoorV6
namespace Go.Proofs.YtdmglpnieiiigaaDoor
open Go.RowKit

theorem parse_range (A : Option Addr) (n cA : Nat) (at' : Int) (w : World) (h : at' < 0 ∨ (n : Int) < at') : Calls Tryd.prog 12 #[.slice A n cA, .int .i64 at'] w fun e w' => e = .returned (.tuple #[.agg #[.string ⟨#[]⟩, .int .i64 0, .int .i64 0, .int .i64 0, .int .i64 0, .int .i64 0, .int .i64 0, .int .i64 0, .int .u32 0, .int .i64 0, .int .i64 0, .bool false, .bool false, .int .i64 0], .int .i64 0, .int .i64 2]) ∧ Below w.heap.size w w' := by
  have HT := Lib.hid (Whole.new w 28 #[.string ⟨#[]⟩, .int .i64 0, .int .i64 0, .int .i64 0, .int .i64 0, .int .i64 0, .int .i64 0, .int .i64 0, .int .u32 0, .int .i64 0, .int .i64 0, .bool false, .bool false, .int .i64 0] rfl)
  have HB5 := Lib.hid ((Below.refl w.heap.size w).alloc (Nat.le_refl _) (.cells #[.string ⟨#[]⟩, .int .i64 0, .int .i64 0, .int .i64 0, .int .i64 0, .int .i64 0, .int .i64 0, .int .i64 0, .int .u32 0, .int .i64 0, .int .i64 0, .bool false, .bool false, .int .i64 0] 28))
  by_cases h0 : at' < 0
  · have d0 : decide (at' < 0) = true := decide_eq_true h0
    go_enter Tryd.func12, Tryd.ntmps12
    go_wp2
    simp [bodyPost, results, Tryd.results12, go_sem]
    exact HB5.out
  · have d0 : decide (at' < 0) = false := decide_eq_false h0
    have d1 : decide ((n : Int) < at') = true := decide_eq_true (by omega)
    go_enter Tryd.func12, Tryd.ntmps12
    go_wp2
    simp [bodyPost, results, Tryd.results12, go_sem]
    exact HB5.out
set_option maxRecDepth 100000 in
set_option maxHeartbeats 8000000 in
theorem parse_end (A : Option Addr) (n : Nat) (xs : List UInt8) (S : Nat → Prop) (w : World) (hE : Env w) (hnn : n ≤ 1000) (hsl : Bs w S A 0 xs) (K : Int) (L : Nat) (v : Value) (hK : K ≠ 0)
    (hread : ∀ g A2 c2 w', Rdr w' g A2 0 c2 xs 0 → w.heap.size ≤ g → Env w' → 0 ≤ c2 → c2 ≤ 9223372036854775807 → Calls Tryd.prog 17 #[.pointer (some ⟨g, 0, none⟩)] w' (RdH w' g A2 0 c2 L K v)) :
    Calls Tryd.prog 12 #[.slice A n n, .int .i64 (n : Nat)] w fun e w' => e = .returned (.tuple #[.agg #[.string ⟨#[]⟩, .int .i64 0, .int .i64 0, .int .i64 0, .int .i64 0, .int .i64 0, .int .i64 0, .int .i64 0, .int .u32 0, .int .i64 0, .int .i64 0, .bool false, .bool false, .int .i64 0], .int .i64 0, .int .i64 K]) ∧ Below w.heap.size w w' := by
  have HE := Lib.hid hE
  have HRD := Lib.hid hread
  have hk0 : (K == 0) = false := by simpa using hK
  have HKN := Lib.hid hK
  clear hE hread hK
  have e1 : IntKind.i64.wrap ((n : Int) + 329) = (n : Int) + 329 := IntWalk.i64_in _ (by omega)
  have d0 : decide ((n : Int) < 0) = false := decide_eq_false (by omega)
  have m1 : min (n : Int) ((n : Int) + 329) = (n : Int) := by omega
  have HB0 := Lib.hid ((Below.refl w.heap.size w).alloc (Nat.le_refl _) (.cells #[.string ⟨#[]⟩, .int .i64 0, .int .i64 0, .int .i64 0, .int .i64 0, .int .i64 0, .int .i64 0, .int .i64 0, .int .u32 0, .int .i64 0, .int .i64 0, .bool false, .bool false, .int .i64 0] 28))
  have HT := Lib.hid (Whole.new w 28 #[.string ⟨#[]⟩, .int .i64 0, .int .i64 0, .int .i64 0, .int .i64 0, .int .i64 0, .int .i64 0, .int .i64 0, .int .u32 0, .int .i64 0, .int .i64 0, .bool false, .bool false, .int .i64 0] rfl)
  have HS := Lib.hid (Bs.alloc hsl (.cells #[.string ⟨#[]⟩, .int .i64 0, .int .i64 0, .int .i64 0, .int .i64 0, .int .i64 0, .int .i64 0, .int .i64 0, .int .u32 0, .int .i64 0, .int .i64 0, .bool false, .bool false, .int .i64 0] 28))
  clear hsl
  go_enter Tryd.func12, Tryd.ntmps12
  go_wp2_with fail
  refine (over_any _ _ _ _ S _ HS.out (by omega)).mono ?_
  rintro e w2 ⟨A2, c2, g, rfl, hg0, hR, hc1, hc2, hb2⟩
  have HB2 := Lib.hid (HB0.out.trans (hb2.mono HB0.out.size))
  have HQ := Lib.hid (Whole.new w2 44 #[.pointer (some ⟨g, 0, none⟩)] rfl)
  have HT := Lib.hid ((HT.out.below' hb2).alloc (.cells #[.pointer (some ⟨g, 0, none⟩)] 44))
  have HR := Lib.hid (hR.below ((Below.refl w2.heap.size w2).alloc (Nat.le_refl _) (.cells #[.pointer (some ⟨g, 0, none⟩)] 44)))
  have HB3 := Lib.hid (HB2.out.alloc HB2.out.size (.cells #[.pointer (some ⟨g, 0, none⟩)] 44))
  have hgl := hR.1.lt
  have hgw : w.heap.size < g := by simp at hg0; omega
  obtain ⟨q, hq⟩ : ∃ q, w2.heap.size = q := ⟨_, rfl⟩
  have hs3 : (w2.alloc (.cells #[.pointer (some ⟨g, 0, none⟩)] 44)).heap.size = q + 1 := by simp [hq]
  rw [hq] at HQ hgl
  clear hb2 hR hg0
  have hmf : ∀ (fn : Fn) (first cap : Array Value) (w : World), (Instr.makeFunc fn first cap).run Tryd.prog w = .ok (.func fn first cap) w := fun _ _ _ _ => rfl
  go_wp2_with fail
  obtain ⟨w3, hw3⟩ : ∃ w3, w2.alloc (.cells #[.pointer (some ⟨g, 0, none⟩)] 44) = w3 := ⟨_, rfl⟩
  rw [hw3] at HQ HT HR HB3 hs3 ⊢
  try rw [hq]
  clear hw3
  refine (tryH_throw 29 #[.pointer (some ⟨q, 0, none⟩)] K w3 (RdR g A2 0 c2 L K) (fun _ => by kernel_rfl) (keep_rdr _ g A2 0 c2 L K (by omega))
    (fun w' hb => pclo_throw g q A2 0 c2 L K v w' HKN.out (HQ.out.below' hb) (by have := hb.size; omega) (fun w'' hb2 => HRD.out g A2 c2 w'' ((HR.out.below hb).below hb2) (by omega) (HE.out.below (HB3.out.trans ((hb.trans (hb2.mono hb.size)).mono HB3.out.size))) hc1 hc2))).mono ?_
  rintro e w5 ⟨rfl, u1, u2, hb4, hMv, hb5⟩
  have HT := Lib.hid ((hMv.1.whole (HT.out.below' hb4) (by omega)).below hb5 (by omega))
  have HB5 := Lib.hid ((hMv.1.below (HB3.out.trans (hb4.mono HB3.out.size)) (by omega) (by have := HB3.out.size; have := hb4.size; omega)).trans (hb5.mono HB3.out.size))
  clear hMv hb4 hb5
  have v0 := HT.out.cell 0
  have v1 := HT.out.cell 1
  have v2 := HT.out.cell 2
  have v3 := HT.out.cell 3
  have v4 := HT.out.cell 4
  have v5 := HT.out.cell 5
  have v6 := HT.out.cell 6
  have v7 := HT.out.cell 7
  have v8 := HT.out.cell 8
  have v9 := HT.out.cell 9
  have v10 := HT.out.cell 10
  have v11 := HT.out.cell 11
  have v12 := HT.out.cell 12
  have v13 := HT.out.cell 13
  simp at v0 v1 v2 v3 v4 v5 v6 v7 v8 v9 v10 v11 v12 v13
  have f0 := HT.out.free 0
  have f1 := HT.out.free 1
  have f2 := HT.out.free 2
  have f3 := HT.out.free 3
  have f4 := HT.out.free 4
  have f5 := HT.out.free 5
  have f6 := HT.out.free 6
  have f7 := HT.out.free 7
  have f8 := HT.out.free 8
  have f9 := HT.out.free 9
  have f10 := HT.out.free 10
  have f11 := HT.out.free 11
  have f12 := HT.out.free 12
  have f13 := HT.out.free 13
  have hlT := HT.out.lt
  go_wp2
  clear v0 f0 v1 f1 v2 f2 v3 f3 v4 f4 v5 f5 v6 f6 v7 f7 v8 f8 v9 f9 v10 f10 v11 f11 v12 f12 v13 f13
  obtain ⟨x0, hw⟩ : ∃ x, (w5.setCell ⟨w.heap.size, 0, none⟩ (.string ⟨#[]⟩)) = x := ⟨_, rfl⟩
  rw [hw]
  have HT : Hid (Whole x0 w.heap.size 28 #[.string ⟨#[]⟩, .int .i64 0, .int .i64 0, .int .i64 0, .int .i64 0, .int .i64 0, .int .i64 0, .int .i64 0, .int .u32 0, .int .i64 0, .int .i64 0, .bool false, .bool false, .int .i64 0]) := Lib.hid (hw ▸ HT.out.put 0 (.string ⟨#[]⟩) rfl)
  have HB5 : Hid (Below w.heap.size w x0) := Lib.hid (hw ▸ HB5.out.setCell (p := ⟨w.heap.size, 0, none⟩) (Nat.le_refl _) (.string ⟨#[]⟩))
  clear hw
  obtain ⟨x1, hw⟩ : ∃ x, (x0.setCell ⟨w.heap.size, 1, none⟩ (.int .i64 0)) = x := ⟨_, rfl⟩
  rw [hw]
  have HT : Hid (Whole x1 w.heap.size 28 #[.string ⟨#[]⟩, .int .i64 0, .int .i64 0, .int .i64 0, .int .i64 0, .int .i64 0, .int .i64 0, .int .i64 0, .int .u32 0, .int .i64 0, .int .i64 0, .bool false, .bool false, .int .i64 0]) := Lib.hid (hw ▸ HT.out.put 1 (.int .i64 0) rfl)
  have HB5 : Hid (Below w.heap.size w x1) := Lib.hid (hw ▸ HB5.out.setCell (p := ⟨w.heap.size, 1, none⟩) (Nat.le_refl _) (.int .i64 0))
  clear hw
  obtain ⟨x2, hw⟩ : ∃ x, (x1.setCell ⟨w.heap.size, 2, none⟩ (.int .i64 0)) = x := ⟨_, rfl⟩
  rw [hw]
  have HT : Hid (Whole x2 w.heap.size 28 #[.string ⟨#[]⟩, .int .i64 0, .int .i64 0, .int .i64 0, .int .i64 0, .int .i64 0, .int .i64 0, .int .i64 0, .int .u32 0, .int .i64 0, .int .i64 0, .bool false, .bool false, .int .i64 0]) := Lib.hid (hw ▸ HT.out.put 2 (.int .i64 0) rfl)
  have HB5 : Hid (Below w.heap.size w x2) := Lib.hid (hw ▸ HB5.out.setCell (p := ⟨w.heap.size, 2, none⟩) (Nat.le_refl _) (.int .i64 0))
  clear hw
  obtain ⟨x3, hw⟩ : ∃ x, (x2.setCell ⟨w.heap.size, 3, none⟩ (.int .i64 0)) = x := ⟨_, rfl⟩
  rw [hw]
  have HT : Hid (Whole x3 w.heap.size 28 #[.string ⟨#[]⟩, .int .i64 0, .int .i64 0, .int .i64 0, .int .i64 0, .int .i64 0, .int .i64 0, .int .i64 0, .int .u32 0, .int .i64 0, .int .i64 0, .bool false, .bool false, .int .i64 0]) := Lib.hid (hw ▸ HT.out.put 3 (.int .i64 0) rfl)
  have HB5 : Hid (Below w.heap.size w x3) := Lib.hid (hw ▸ HB5.out.setCell (p := ⟨w.heap.size, 3, none⟩) (Nat.le_refl _) (.int .i64 0))
  clear hw
  obtain ⟨x4, hw⟩ : ∃ x, (x3.setCell ⟨w.heap.size, 4, none⟩ (.int .i64 0)) = x := ⟨_, rfl⟩
  rw [hw]
  have HT : Hid (Whole x4 w.heap.size 28 #[.string ⟨#[]⟩, .int .i64 0, .int .i64 0, .int .i64 0, .int .i64 0, .int .i64 0, .int .i64 0, .int .i64 0, .int .u32 0, .int .i64 0, .int .i64 0, .bool false, .bool false, .int .i64 0]) := Lib.hid (hw ▸ HT.out.put 4 (.int .i64 0) rfl)
  have HB5 : Hid (Below w.heap.size w x4) := Lib.hid (hw ▸ HB5.out.setCell (p := ⟨w.heap.size, 4, none⟩) (Nat.le_refl _) (.int .i64 0))
  clear hw
  obtain ⟨x5, hw⟩ : ∃ x, (x4.setCell ⟨w.heap.size, 5, none⟩ (.int .i64 0)) = x := ⟨_, rfl⟩
  rw [hw]
  have HT : Hid (Whole x5 w.heap.size 28 #[.string ⟨#[]⟩, .int .i64 0, .int .i64 0, .int .i64 0, .int .i64 0, .int .i64 0, .int .i64 0, .int .i64 0, .int .u32 0, .int .i64 0, .int .i64 0, .bool false, .bool false, .int .i64 0]) := Lib.hid (hw ▸ HT.out.put 5 (.int .i64 0) rfl)
  have HB5 : Hid (Below w.heap.size w x5) := Lib.hid (hw ▸ HB5.out.setCell (p := ⟨w.heap.size, 5, none⟩) (Nat.le_refl _) (.int .i64 0))
  clear hw
  obtain ⟨x6, hw⟩ : ∃ x, (x5.setCell ⟨w.heap.size, 6, none⟩ (.int .i64 0)) = x := ⟨_, rfl⟩
  rw [hw]
  have HT : Hid (Whole x6 w.heap.size 28 #[.string ⟨#[]⟩, .int .i64 0, .int .i64 0, .int .i64 0, .int .i64 0, .int .i64 0, .int .i64 0, .int .i64 0, .int .u32 0, .int .i64 0, .int .i64 0, .bool false, .bool false, .int .i64 0]) := Lib.hid (hw ▸ HT.out.put 6 (.int .i64 0) rfl)
  have HB5 : Hid (Below w.heap.size w x6) := Lib.hid (hw ▸ HB5.out.setCell (p := ⟨w.heap.size, 6, none⟩) (Nat.le_refl _) (.int .i64 0))
  clear hw
  obtain ⟨x7, hw⟩ : ∃ x, (x6.setCell ⟨w.heap.size, 7, none⟩ (.int .i64 0)) = x := ⟨_, rfl⟩
  rw [hw]
  have HT : Hid (Whole x7 w.heap.size 28 #[.string ⟨#[]⟩, .int .i64 0, .int .i64 0, .int .i64 0, .int .i64 0, .int .i64 0, .int .i64 0, .int .i64 0, .int .u32 0, .int .i64 0, .int .i64 0, .bool false, .bool false, .int .i64 0]) := Lib.hid (hw ▸ HT.out.put 7 (.int .i64 0) rfl)
  have HB5 : Hid (Below w.heap.size w x7) := Lib.hid (hw ▸ HB5.out.setCell (p := ⟨w.heap.size, 7, none⟩) (Nat.le_refl _) (.int .i64 0))
  clear hw
  obtain ⟨x8, hw⟩ : ∃ x, (x7.setCell ⟨w.heap.size, 8, none⟩ (.int .u32 0)) = x := ⟨_, rfl⟩
  rw [hw]
  have HT : Hid (Whole x8 w.heap.size 28 #[.string ⟨#[]⟩, .int .i64 0, .int .i64 0, .int .i64 0, .int .i64 0, .int .i64 0, .int .i64 0, .int .i64 0, .int .u32 0, .int .i64 0, .int .i64 0, .bool false, .bool false, .int .i64 0]) := Lib.hid (hw ▸ HT.out.put 8 (.int .u32 0) rfl)
  have HB5 : Hid (Below w.heap.size w x8) := Lib.hid (hw ▸ HB5.out.setCell (p := ⟨w.heap.size, 8, none⟩) (Nat.le_refl _) (.int .u32 0))
  clear hw
  obtain ⟨x9, hw⟩ : ∃ x, (x8.setCell ⟨w.heap.size, 9, none⟩ (.int .i64 0)) = x := ⟨_, rfl⟩
  rw [hw]
  have HT : Hid (Whole x9 w.heap.size 28 #[.string ⟨#[]⟩, .int .i64 0, .int .i64 0, .int .i64 0, .int .i64 0, .int .i64 0, .int .i64 0, .int .i64 0, .int .u32 0, .int .i64 0, .int .i64 0, .bool false, .bool false, .int .i64 0]) := Lib.hid (hw ▸ HT.out.put 9 (.int .i64 0) rfl)
  have HB5 : Hid (Below w.heap.size w x9) := Lib.hid (hw ▸ HB5.out.setCell (p := ⟨w.heap.size, 9, none⟩) (Nat.le_refl _) (.int .i64 0))
  clear hw
  obtain ⟨x10, hw⟩ : ∃ x, (x9.setCell ⟨w.heap.size, 10, none⟩ (.int .i64 0)) = x := ⟨_, rfl⟩
  rw [hw]
  have HT : Hid (Whole x10 w.heap.size 28 #[.string ⟨#[]⟩, .int .i64 0, .int .i64 0, .int .i64 0, .int .i64 0, .int .i64 0, .int .i64 0, .int .i64 0, .int .u32 0, .int .i64 0, .int .i64 0, .bool false, .bool false, .int .i64 0]) := Lib.hid (hw ▸ HT.out.put 10 (.int .i64 0) rfl)
  have HB5 : Hid (Below w.heap.size w x10) := Lib.hid (hw ▸ HB5.out.setCell (p := ⟨w.heap.size, 10, none⟩) (Nat.le_refl _) (.int .i64 0))
  clear hw
  obtain ⟨x11, hw⟩ : ∃ x, (x10.setCell ⟨w.heap.size, 11, none⟩ (.bool false)) = x := ⟨_, rfl⟩
  rw [hw]
  have HT : Hid (Whole x11 w.heap.size 28 #[.string ⟨#[]⟩, .int .i64 0, .int .i64 0, .int .i64 0, .int .i64 0, .int .i64 0, .int .i64 0, .int .i64 0, .int .u32 0, .int .i64 0, .int .i64 0, .bool false, .bool false, .int .i64 0]) := Lib.hid (hw ▸ HT.out.put 11 (.bool false) rfl)
  have HB5 : Hid (Below w.heap.size w x11) := Lib.hid (hw ▸ HB5.out.setCell (p := ⟨w.heap.size, 11, none⟩) (Nat.le_refl _) (.bool false))
  clear hw
  obtain ⟨x12, hw⟩ : ∃ x, (x11.setCell ⟨w.heap.size, 12, none⟩ (.bool false)) = x := ⟨_, rfl⟩
  rw [hw]
  have HT : Hid (Whole x12 w.heap.size 28 #[.string ⟨#[]⟩, .int .i64 0, .int .i64 0, .int .i64 0, .int .i64 0, .int .i64 0, .int .i64 0, .int .i64 0, .int .u32 0, .int .i64 0, .int .i64 0, .bool false, .bool false, .int .i64 0]) := Lib.hid (hw ▸ HT.out.put 12 (.bool false) rfl)
  have HB5 : Hid (Below w.heap.size w x12) := Lib.hid (hw ▸ HB5.out.setCell (p := ⟨w.heap.size, 12, none⟩) (Nat.le_refl _) (.bool false))
  clear hw
  obtain ⟨x13, hw⟩ : ∃ x, (x12.setCell ⟨w.heap.size, 13, none⟩ (.int .i64 0)) = x := ⟨_, rfl⟩
  rw [hw]
  have HT : Hid (Whole x13 w.heap.size 28 #[.string ⟨#[]⟩, .int .i64 0, .int .i64 0, .int .i64 0, .int .i64 0, .int .i64 0, .int .i64 0, .int .i64 0, .int .u32 0, .int .i64 0, .int .i64 0, .bool false, .bool false, .int .i64 0]) := Lib.hid (hw ▸ HT.out.put 13 (.int .i64 0) rfl)
  have HB5 : Hid (Below w.heap.size w x13) := Lib.hid (hw ▸ HB5.out.setCell (p := ⟨w.heap.size, 13, none⟩) (Nat.le_refl _) (.int .i64 0))
  clear hw
  have HT := Lib.hid (HT.out.alloc (.cells #[.string ⟨#[]⟩, .int .i64 0, .int .i64 0, .int .i64 0, .int .i64 0, .int .i64 0, .int .i64 0, .int .i64 0, .int .u32 0, .int .i64 0, .int .i64 0, .bool false, .bool false, .int .i64 0] 28))
  have HB5 := Lib.hid (HB5.out.alloc HB5.out.size (.cells #[.string ⟨#[]⟩, .int .i64 0, .int .i64 0, .int .i64 0, .int .i64 0, .int .i64 0, .int .i64 0, .int .i64 0, .int .u32 0, .int .i64 0, .int .i64 0, .bool false, .bool false, .int .i64 0] 28))
  have q1 := HT.out.cell 0
  have q2 := HT.out.cell 1
  have q3 := HT.out.cell 2
  have q4 := HT.out.cell 3
  have q5 := HT.out.cell 4
  have q6 := HT.out.cell 5
  have q7 := HT.out.cell 6
  have q8 := HT.out.cell 7
  have q9 := HT.out.cell 8
  have q10 := HT.out.cell 9
  have q11 := HT.out.cell 10
  have q12 := HT.out.cell 11
  have q13 := HT.out.cell 12
  have q14 := HT.out.cell 13
  simp at q1 q2 q3 q4 q5 q6 q7 q8 q9 q10 q11 q12 q13 q14
  simp [bodyPost, results, Tryd.results12, go_sem, q1, q2, q3, q4, q5, q6, q7, q8, q9, q10, q11, q12, q13, q14]
  exact HB5.out
set_option maxRecDepth 100000 in
set_option maxHeartbeats 4000000 in
theorem lclo_ret (g q : Nat) (A : Option Addr) (n cap L : Nat) (s : ByteArray) (y mo d h mi se me c p z : Int) (wd lt : Bool) (pl : Int) (w : World) (hq : Whole w q 44 #[.pointer (some ⟨g, 0, none⟩)]) (hgl : g < w.heap.size)
    (hh : ∀ w', Below w.heap.size w w' → Calls Tryd.prog 17 #[.pointer (some ⟨g, 0, none⟩)] w' (RdH w' g A n cap L 0 (.agg #[.string s, .int .i64 y, .int .i64 mo, .int .i64 d, .int .i64 h, .int .i64 mi, .int .i64 se, .int .i64 me, .int .u32 c, .int .i64 p, .int .i64 z, .bool wd, .bool lt, .int .i64 pl]))) :
    Calls Tryd.prog 16 #[.pointer (some ⟨q, 0, none⟩)] w fun e w' => e = .returned (.agg #[.string s, .int .i64 y, .int .i64 mo, .int .i64 d, .int .i64 h, .int .i64 mi, .int .i64 se, .int .i64 me, .int .u32 c, .int .i64 p, .int .i64 z, .bool wd, .bool lt, .int .i64 pl]) ∧ RdR g A n cap L 0 w w' := by
  have HB0 := Lib.hid ((Below.refl w.heap.size w).alloc (Nat.le_refl _) (.cells #[.string ⟨#[]⟩, .int .i64 0, .int .i64 0, .int .i64 0, .int .i64 0, .int .i64 0, .int .i64 0, .int .i64 0, .int .u32 0, .int .i64 0, .int .i64 0, .bool false, .bool false, .int .i64 0] 28))
  have HT := Lib.hid (Whole.new w 28 #[.string ⟨#[]⟩, .int .i64 0, .int .i64 0, .int .i64 0, .int .i64 0, .int .i64 0, .int .i64 0, .int .i64 0, .int .u32 0, .int .i64 0, .int .i64 0, .bool false, .bool false, .int .i64 0] rfl)
  have HX := Lib.hid (hh _ HB0.out)
  unfold RdH at HX
  have q0 := hq.cell 0
  have hlq := hq.lt
  simp at q0
  clear hh
  go_enter Tryd.func16, Tryd.ntmps16
  go_wp2_with fail
  refine HX.out.mono ?_
  rintro e w2 ⟨he, hA, hW⟩
  simp only [if_true] at he
  subst he
  have HT := Lib.hid (hA.whole HT.out (by omega))
  have HA := Lib.hid (((Alone.refl w g).alloc (.cells #[.string ⟨#[]⟩, .int .i64 0, .int .i64 0, .int .i64 0, .int .i64 0, .int .i64 0, .int .i64 0, .int .i64 0, .int .u32 0, .int .i64 0, .int .i64 0, .bool false, .bool false, .int .i64 0] 28)).trans hA)
  have HG := Lib.hid (hW trivial)
  clear hA hW
  have v0 := HT.out.cell 0
  have v1 := HT.out.cell 1
  have v2 := HT.out.cell 2
  have v3 := HT.out.cell 3
  have v4 := HT.out.cell 4
  have v5 := HT.out.cell 5
  have v6 := HT.out.cell 6
  have v7 := HT.out.cell 7
  have v8 := HT.out.cell 8
  have v9 := HT.out.cell 9
  have v10 := HT.out.cell 10
  have v11 := HT.out.cell 11
  have v12 := HT.out.cell 12
  have v13 := HT.out.cell 13
  simp at v0 v1 v2 v3 v4 v5 v6 v7 v8 v9 v10 v11 v12 v13
  have f0 := HT.out.free 0
  have f1 := HT.out.free 1
  have f2 := HT.out.free 2
  have f3 := HT.out.free 3
  have f4 := HT.out.free 4
  have f5 := HT.out.free 5
  have f6 := HT.out.free 6
  have f7 := HT.out.free 7
  have f8 := HT.out.free 8
  have f9 := HT.out.free 9
  have f10 := HT.out.free 10
  have f11 := HT.out.free 11
  have f12 := HT.out.free 12
  have f13 := HT.out.free 13
  have hlt := HT.out.lt
  go_wp2
  clear v0 f0 v1 f1 v2 f2 v3 f3 v4 f4 v5 f5 v6 f6 v7 f7 v8 f8 v9 f9 v10 f10 v11 f11 v12 f12 v13 f13
  have hgn : g ≠ w.heap.size := by omega
  obtain ⟨x0, hw⟩ : ∃ x, (w2.setCell ⟨w.heap.size, 0, none⟩ (.string s)) = x := ⟨_, rfl⟩
  rw [hw]
  have HT : Hid (Whole x0 w.heap.size 28 #[.string s, .int .i64 0, .int .i64 0, .int .i64 0, .int .i64 0, .int .i64 0, .int .i64 0, .int .i64 0, .int .u32 0, .int .i64 0, .int .i64 0, .bool false, .bool false, .int .i64 0]) := Lib.hid (hw ▸ HT.out.put 0 (.string s) rfl)
  have HA : Hid (Alone w x0 g) := Lib.hid (hw ▸ alone_new HA.out (p := ⟨w.heap.size, 0, none⟩) (Nat.le_refl _) (.string s))
  have HG : Hid (Whole x0 g 70 #[.slice A n cap, .int .i64 (L : Nat)]) := Lib.hid (hw ▸ HG.out.other (p := ⟨w.heap.size, 0, none⟩) hgn (.string s))
  clear hw
  obtain ⟨x1, hw⟩ : ∃ x, (x0.setCell ⟨w.heap.size, 1, none⟩ (.int .i64 y)) = x := ⟨_, rfl⟩
  rw [hw]
  have HT : Hid (Whole x1 w.heap.size 28 #[.string s, .int .i64 y, .int .i64 0, .int .i64 0, .int .i64 0, .int .i64 0, .int .i64 0, .int .i64 0, .int .u32 0, .int .i64 0, .int .i64 0, .bool false, .bool false, .int .i64 0]) := Lib.hid (hw ▸ HT.out.put 1 (.int .i64 y) rfl)
  have HA : Hid (Alone w x1 g) := Lib.hid (hw ▸ alone_new HA.out (p := ⟨w.heap.size, 1, none⟩) (Nat.le_refl _) (.int .i64 y))
  have HG : Hid (Whole x1 g 70 #[.slice A n cap, .int .i64 (L : Nat)]) := Lib.hid (hw ▸ HG.out.other (p := ⟨w.heap.size, 1, none⟩) hgn (.int .i64 y))
  clear hw
  obtain ⟨x2, hw⟩ : ∃ x, (x1.setCell ⟨w.heap.size, 2, none⟩ (.int .i64 mo)) = x := ⟨_, rfl⟩
  rw [hw]
  have HT : Hid (Whole x2 w.heap.size 28 #[.string s, .int .i64 y, .int .i64 mo, .int .i64 0, .int .i64 0, .int .i64 0, .int .i64 0, .int .i64 0, .int .u32 0, .int .i64 0, .int .i64 0, .bool false, .bool false, .int .i64 0]) := Lib.hid (hw ▸ HT.out.put 2 (.int .i64 mo) rfl)
  have HA : Hid (Alone w x2 g) := Lib.hid (hw ▸ alone_new HA.out (p := ⟨w.heap.size, 2, none⟩) (Nat.le_refl _) (.int .i64 mo))
  have HG : Hid (Whole x2 g 70 #[.slice A n cap, .int .i64 (L : Nat)]) := Lib.hid (hw ▸ HG.out.other (p := ⟨w.heap.size, 2, none⟩) hgn (.int .i64 mo))
  clear hw
  obtain ⟨x3, hw⟩ : ∃ x, (x2.setCell ⟨w.heap.size, 3, none⟩ (.int .i64 d)) = x := ⟨_, rfl⟩
  rw [hw]
  have HT : Hid (Whole x3 w.heap.size 28 #[.string s, .int .i64 y, .int .i64 mo, .int .i64 d, .int .i64 0, .int .i64 0, .int .i64 0, .int .i64 0, .int .u32 0, .int .i64 0, .int .i64 0, .bool false, .bool false, .int .i64 0]) := Lib.hid (hw ▸ HT.out.put 3 (.int .i64 d) rfl)
  have HA : Hid (Alone w x3 g) := Lib.hid (hw ▸ alone_new HA.out (p := ⟨w.heap.size, 3, none⟩) (Nat.le_refl _) (.int .i64 d))
  have HG : Hid (Whole x3 g 70 #[.slice A n cap, .int .i64 (L : Nat)]) := Lib.hid (hw ▸ HG.out.other (p := ⟨w.heap.size, 3, none⟩) hgn (.int .i64 d))
  clear hw
  obtain ⟨x4, hw⟩ : ∃ x, (x3.setCell ⟨w.heap.size, 4, none⟩ (.int .i64 h)) = x := ⟨_, rfl⟩
  rw [hw]
  have HT : Hid (Whole x4 w.heap.size 28 #[.string s, .int .i64 y, .int .i64 mo, .int .i64 d, .int .i64 h, .int .i64 0, .int .i64 0, .int .i64 0, .int .u32 0, .int .i64 0, .int .i64 0, .bool false, .bool false, .int .i64 0]) := Lib.hid (hw ▸ HT.out.put 4 (.int .i64 h) rfl)
  have HA : Hid (Alone w x4 g) := Lib.hid (hw ▸ alone_new HA.out (p := ⟨w.heap.size, 4, none⟩) (Nat.le_refl _) (.int .i64 h))
  have HG : Hid (Whole x4 g 70 #[.slice A n cap, .int .i64 (L : Nat)]) := Lib.hid (hw ▸ HG.out.other (p := ⟨w.heap.size, 4, none⟩) hgn (.int .i64 h))
  clear hw
  obtain ⟨x5, hw⟩ : ∃ x, (x4.setCell ⟨w.heap.size, 5, none⟩ (.int .i64 mi)) = x := ⟨_, rfl⟩
  rw [hw]
  have HT : Hid (Whole x5 w.heap.size 28 #[.string s, .int .i64 y, .int .i64 mo, .int .i64 d, .int .i64 h, .int .i64 mi, .int .i64 0, .int .i64 0, .int .u32 0, .int .i64 0, .int .i64 0, .bool false, .bool false, .int .i64 0]) := Lib.hid (hw ▸ HT.out.put 5 (.int .i64 mi) rfl)
  have HA : Hid (Alone w x5 g) := Lib.hid (hw ▸ alone_new HA.out (p := ⟨w.heap.size, 5, none⟩) (Nat.le_refl _) (.int .i64 mi))
  have HG : Hid (Whole x5 g 70 #[.slice A n cap, .int .i64 (L : Nat)]) := Lib.hid (hw ▸ HG.out.other (p := ⟨w.heap.size, 5, none⟩) hgn (.int .i64 mi))
  clear hw
  obtain ⟨x6, hw⟩ : ∃ x, (x5.setCell ⟨w.heap.size, 6, none⟩ (.int .i64 se)) = x := ⟨_, rfl⟩
  rw [hw]
  have HT : Hid (Whole x6 w.heap.size 28 #[.string s, .int .i64 y, .int .i64 mo, .int .i64 d, .int .i64 h, .int .i64 mi, .int .i64 se, .int .i64 0, .int .u32 0, .int .i64 0, .int .i64 0, .bool false, .bool false, .int .i64 0]) := Lib.hid (hw ▸ HT.out.put 6 (.int .i64 se) rfl)
  have HA : Hid (Alone w x6 g) := Lib.hid (hw ▸ alone_new HA.out (p := ⟨w.heap.size, 6, none⟩) (Nat.le_refl _) (.int .i64 se))
  have HG : Hid (Whole x6 g 70 #[.slice A n cap, .int .i64 (L : Nat)]) := Lib.hid (hw ▸ HG.out.other (p := ⟨w.heap.size, 6, none⟩) hgn (.int .i64 se))
  clear hw
  obtain ⟨x7, hw⟩ : ∃ x, (x6.setCell ⟨w.heap.size, 7, none⟩ (.int .i64 me)) = x := ⟨_, rfl⟩
  rw [hw]
  have HT : Hid (Whole x7 w.heap.size 28 #[.string s, .int .i64 y, .int .i64 mo, .int .i64 d, .int .i64 h, .int .i64 mi, .int .i64 se, .int .i64 me, .int .u32 0, .int .i64 0, .int .i64 0, .bool false, .bool false, .int .i64 0]) := Lib.hid (hw ▸ HT.out.put 7 (.int .i64 me) rfl)
  have HA : Hid (Alone w x7 g) := Lib.hid (hw ▸ alone_new HA.out (p := ⟨w.heap.size, 7, none⟩) (Nat.le_refl _) (.int .i64 me))
  have HG : Hid (Whole x7 g 70 #[.slice A n cap, .int .i64 (L : Nat)]) := Lib.hid (hw ▸ HG.out.other (p := ⟨w.heap.size, 7, none⟩) hgn (.int .i64 me))
  clear hw
  obtain ⟨x8, hw⟩ : ∃ x, (x7.setCell ⟨w.heap.size, 8, none⟩ (.int .u32 c)) = x := ⟨_, rfl⟩
  rw [hw]
  have HT : Hid (Whole x8 w.heap.size 28 #[.string s, .int .i64 y, .int .i64 mo, .int .i64 d, .int .i64 h, .int .i64 mi, .int .i64 se, .int .i64 me, .int .u32 c, .int .i64 0, .int .i64 0, .bool false, .bool false, .int .i64 0]) := Lib.hid (hw ▸ HT.out.put 8 (.int .u32 c) rfl)
  have HA : Hid (Alone w x8 g) := Lib.hid (hw ▸ alone_new HA.out (p := ⟨w.heap.size, 8, none⟩) (Nat.le_refl _) (.int .u32 c))
  have HG : Hid (Whole x8 g 70 #[.slice A n cap, .int .i64 (L : Nat)]) := Lib.hid (hw ▸ HG.out.other (p := ⟨w.heap.size, 8, none⟩) hgn (.int .u32 c))
  clear hw
  obtain ⟨x9, hw⟩ : ∃ x, (x8.setCell ⟨w.heap.size, 9, none⟩ (.int .i64 p)) = x := ⟨_, rfl⟩
  rw [hw]
  have HT : Hid (Whole x9 w.heap.size 28 #[.string s, .int .i64 y, .int .i64 mo, .int .i64 d, .int .i64 h, .int .i64 mi, .int .i64 se, .int .i64 me, .int .u32 c, .int .i64 p, .int .i64 0, .bool false, .bool false, .int .i64 0]) := Lib.hid (hw ▸ HT.out.put 9 (.int .i64 p) rfl)
  have HA : Hid (Alone w x9 g) := Lib.hid (hw ▸ alone_new HA.out (p := ⟨w.heap.size, 9, none⟩) (Nat.le_refl _) (.int .i64 p))
  have HG : Hid (Whole x9 g 70 #[.slice A n cap, .int .i64 (L : Nat)]) := Lib.hid (hw ▸ HG.out.other (p := ⟨w.heap.size, 9, none⟩) hgn (.int .i64 p))
  clear hw
  obtain ⟨x10, hw⟩ : ∃ x, (x9.setCell ⟨w.heap.size, 10, none⟩ (.int .i64 z)) = x := ⟨_, rfl⟩
  rw [hw]
  have HT : Hid (Whole x10 w.heap.size 28 #[.string s, .int .i64 y, .int .i64 mo, .int .i64 d, .int .i64 h, .int .i64 mi, .int .i64 se, .int .i64 me, .int .u32 c, .int .i64 p, .int .i64 z, .bool false, .bool false, .int .i64 0]) := Lib.hid (hw ▸ HT.out.put 10 (.int .i64 z) rfl)
  have HA : Hid (Alone w x10 g) := Lib.hid (hw ▸ alone_new HA.out (p := ⟨w.heap.size, 10, none⟩) (Nat.le_refl _) (.int .i64 z))
  have HG : Hid (Whole x10 g 70 #[.slice A n cap, .int .i64 (L : Nat)]) := Lib.hid (hw ▸ HG.out.other (p := ⟨w.heap.size, 10, none⟩) hgn (.int .i64 z))
  clear hw
  obtain ⟨x11, hw⟩ : ∃ x, (x10.setCell ⟨w.heap.size, 11, none⟩ (.bool wd)) = x := ⟨_, rfl⟩
  rw [hw]
  have HT : Hid (Whole x11 w.heap.size 28 #[.string s, .int .i64 y, .int .i64 mo, .int .i64 d, .int .i64 h, .int .i64 mi, .int .i64 se, .int .i64 me, .int .u32 c, .int .i64 p, .int .i64 z, .bool wd, .bool false, .int .i64 0]) := Lib.hid (hw ▸ HT.out.put 11 (.bool wd) rfl)
  have HA : Hid (Alone w x11 g) := Lib.hid (hw ▸ alone_new HA.out (p := ⟨w.heap.size, 11, none⟩) (Nat.le_refl _) (.bool wd))
  have HG : Hid (Whole x11 g 70 #[.slice A n cap, .int .i64 (L : Nat)]) := Lib.hid (hw ▸ HG.out.other (p := ⟨w.heap.size, 11, none⟩) hgn (.bool wd))
  clear hw
  obtain ⟨x12, hw⟩ : ∃ x, (x11.setCell ⟨w.heap.size, 12, none⟩ (.bool lt)) = x := ⟨_, rfl⟩
  rw [hw]
  have HT : Hid (Whole x12 w.heap.size 28 #[.string s, .int .i64 y, .int .i64 mo, .int .i64 d, .int .i64 h, .int .i64 mi, .int .i64 se, .int .i64 me, .int .u32 c, .int .i64 p, .int .i64 z, .bool wd, .bool lt, .int .i64 0]) := Lib.hid (hw ▸ HT.out.put 12 (.bool lt) rfl)
  have HA : Hid (Alone w x12 g) := Lib.hid (hw ▸ alone_new HA.out (p := ⟨w.heap.size, 12, none⟩) (Nat.le_refl _) (.bool lt))
  have HG : Hid (Whole x12 g 70 #[.slice A n cap, .int .i64 (L : Nat)]) := Lib.hid (hw ▸ HG.out.other (p := ⟨w.heap.size, 12, none⟩) hgn (.bool lt))
  clear hw
  obtain ⟨x13, hw⟩ : ∃ x, (x12.setCell ⟨w.heap.size, 13, none⟩ (.int .i64 pl)) = x := ⟨_, rfl⟩
  rw [hw]
  have HT : Hid (Whole x13 w.heap.size 28 #[.string s, .int .i64 y, .int .i64 mo, .int .i64 d, .int .i64 h, .int .i64 mi, .int .i64 se, .int .i64 me, .int .u32 c, .int .i64 p, .int .i64 z, .bool wd, .bool lt, .int .i64 pl]) := Lib.hid (hw ▸ HT.out.put 13 (.int .i64 pl) rfl)
  have HA : Hid (Alone w x13 g) := Lib.hid (hw ▸ alone_new HA.out (p := ⟨w.heap.size, 13, none⟩) (Nat.le_refl _) (.int .i64 pl))
  have HG : Hid (Whole x13 g 70 #[.slice A n cap, .int .i64 (L : Nat)]) := Lib.hid (hw ▸ HG.out.other (p := ⟨w.heap.size, 13, none⟩) hgn (.int .i64 pl))
  clear hw
  have q1 := HT.out.cell 0
  have q2 := HT.out.cell 1
  have q3 := HT.out.cell 2
  have q4 := HT.out.cell 3
  have q5 := HT.out.cell 4
  have q6 := HT.out.cell 5
  have q7 := HT.out.cell 6
  have q8 := HT.out.cell 7
  have q9 := HT.out.cell 8
  have q10 := HT.out.cell 9
  have q11 := HT.out.cell 10
  have q12 := HT.out.cell 11
  have q13 := HT.out.cell 12
  have q14 := HT.out.cell 13
  simp at q1 q2 q3 q4 q5 q6 q7 q8 q9 q10 q11 q12 q13 q14
  simp [bodyPost, results, Tryd.results16, go_sem, q1, q2, q3, q4, q5, q6, q7, q8, q9, q10, q11, q12, q13, q14]
  exact ⟨HA.out, fun _ => HG.out⟩
set_option maxRecDepth 100000 in
set_option maxHeartbeats 4000000 in
theorem lclo_throw (g q : Nat) (A : Option Addr) (n cap L : Nat) (K : Int) (v : Value) (w : World) (hK : K ≠ 0) (hq : Whole w q 44 #[.pointer (some ⟨g, 0, none⟩)]) (_hgl : g < w.heap.size)
    (hh : ∀ w', Below w.heap.size w w' → Calls Tryd.prog 17 #[.pointer (some ⟨g, 0, none⟩)] w' (RdH w' g A n cap L K v)) :
    Calls Tryd.prog 16 #[.pointer (some ⟨q, 0, none⟩)] w fun e w' => e = .panicked [{ v := fault K, recovered := false }] ∧ RdR g A n cap L K w w' := by
  have HB0 := Lib.hid ((Below.refl w.heap.size w).alloc (Nat.le_refl _) (.cells #[.string ⟨#[]⟩, .int .i64 0, .int .i64 0, .int .i64 0, .int .i64 0, .int .i64 0, .int .i64 0, .int .i64 0, .int .u32 0, .int .i64 0, .int .i64 0, .bool false, .bool false, .int .i64 0] 28))
  have HX := Lib.hid (hh _ HB0.out)
  unfold RdH at HX
  have q0 := hq.cell 0
  have hlq := hq.lt
  simp at q0
  clear hh
  go_enter Tryd.func16, Tryd.ntmps16
  go_wp2_with fail
  refine HX.out.mono ?_
  rintro e w2 ⟨he, hA, hW⟩
  rw [if_neg hK] at he
  subst he
  have HA := Lib.hid (((Alone.refl w g).alloc (.cells #[.string ⟨#[]⟩, .int .i64 0, .int .i64 0, .int .i64 0, .int .i64 0, .int .i64 0, .int .i64 0, .int .i64 0, .int .u32 0, .int .i64 0, .int .i64 0, .bool false, .bool false, .int .i64 0] 28)).trans hA)
  have HK := Lib.hid hK
  clear hA hW hK
  go_wp2
  simp [bodyPost]
  exact ⟨HA.out, fun h => absurd h HK.out⟩
end Go.Proofs.YtdmglpnieiiigaaDoor
