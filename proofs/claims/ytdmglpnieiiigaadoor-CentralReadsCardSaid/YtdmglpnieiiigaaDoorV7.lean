/- Parse. -/
import Derived.Test.YtdmglpnieiiigaaDoorV5
import Derived.Deep.RegionLaw
namespace Go.Proofs.YtdmglpnieiiigaaDoor
open Go.RowKit

theorem at_whole (g : Nat) (A : Option Addr) (n c p : Nat) (w : World) (h : Whole w g 70 #[.slice A n c, .int .i64 p]) : Calls Tryd.prog 18 #[.pointer (some ⟨g, 0, none⟩)] w fun e w' => e = .returned (.int .i64 p) ∧ w = w' := by
  have c1 := h.cell 1
  have f1 := h.free 1
  clear h
  go_enter Tryd.func18, Tryd.ntmps18
  go_wp2
  go_ret
  exact ⟨rfl, rfl⟩
set_option maxRecDepth 100000 in
set_option maxHeartbeats 8000000 in
theorem parse_ok_mid (A : Option Addr) (n cA at' M m : Nat) (xs : List UInt8) (S : Nat → Prop) (w : World) (hE : Env w) (hat : at' ≤ n) (hnn : n ≤ 1000) (hnc : n ≤ cA) (_hcc : cA ≤ 9223372036854775807) (hM : min n (at' + 329) = M) (hm : M - at' = m) (hca : cA ≠ at') (hsl : Bs w S (Option.map (fun x => x.add at') A) m xs) (L : Nat) (s : ByteArray) (y mo d h mi se me c p z : Int) (wd lt : Bool) (pl : Int) (hL : L ≤ 400)
    (hread : ∀ g A2 c2 w', Rdr w' g A2 m c2 xs 0 → w.heap.size ≤ g → Env w' → m ≤ c2 → c2 ≤ 9223372036854775807 → Calls Tryd.prog 17 #[.pointer (some ⟨g, 0, none⟩)] w' (RdH w' g A2 m c2 L 0 (.agg #[.string s, .int .i64 y, .int .i64 mo, .int .i64 d, .int .i64 h, .int .i64 mi, .int .i64 se, .int .i64 me, .int .u32 c, .int .i64 p, .int .i64 z, .bool wd, .bool lt, .int .i64 pl]))) :
    Calls Tryd.prog 12 #[.slice A n cA, .int .i64 (at' : Nat)] w fun e w' => e = .returned (.tuple #[.agg #[.string s, .int .i64 y, .int .i64 mo, .int .i64 d, .int .i64 h, .int .i64 mi, .int .i64 se, .int .i64 me, .int .u32 c, .int .i64 p, .int .i64 z, .bool wd, .bool lt, .int .i64 pl], .int .i64 ((at' + L : Nat) : Int), .int .i64 0]) ∧ Below w.heap.size w w' := by
  have HE := Lib.hid hE
  have HRD := Lib.hid hread
  clear hE hread
  have d0 : decide ((at' : Int) < 0) = false := decide_eq_false (by omega)
  have d1 : decide ((n : Int) < (at' : Int)) = false := decide_eq_false (by omega)
  have d1' : decide (n < at') = false := decide_eq_false (by omega)
  have e1 : IntKind.i64.wrap ((at' : Int) + 329) = (at' : Int) + 329 := IntWalk.i64_in _ (by omega)
  have m1 : min (n : Int) ((at' : Int) + 329) = (M : Int) := by omega
  have i1 : (M : Int) ≤ (cA : Int) := by omega
  have i2 : (at' : Int) ≤ (M : Int) := by omega
  have i3 : M - at' = m := hm
  have HB0 := Lib.hid ((Below.refl w.heap.size w).alloc (Nat.le_refl _) (.cells #[.string ⟨#[]⟩, .int .i64 0, .int .i64 0, .int .i64 0, .int .i64 0, .int .i64 0, .int .i64 0, .int .i64 0, .int .u32 0, .int .i64 0, .int .i64 0, .bool false, .bool false, .int .i64 0] 28))
  have HT := Lib.hid (Whole.new w 28 #[.string ⟨#[]⟩, .int .i64 0, .int .i64 0, .int .i64 0, .int .i64 0, .int .i64 0, .int .i64 0, .int .i64 0, .int .u32 0, .int .i64 0, .int .i64 0, .bool false, .bool false, .int .i64 0] rfl)
  have HS := Lib.hid (Bs.alloc hsl (.cells #[.string ⟨#[]⟩, .int .i64 0, .int .i64 0, .int .i64 0, .int .i64 0, .int .i64 0, .int .i64 0, .int .i64 0, .int .u32 0, .int .i64 0, .int .i64 0, .bool false, .bool false, .int .i64 0] 28))
  have hmM : m ≤ 329 := by omega
  clear hsl hM
  go_enter Tryd.func12, Tryd.ntmps12
  go_wp2_with fail
  refine (over_any _ _ _ _ S _ HS.out (by omega)).mono ?_
  rintro e w2 ⟨A2, c2, g, rfl, hg0, hR, hc1, hc2, hb2⟩
  have HB2 := Lib.hid (HB0.out.trans (hb2.mono HB0.out.size))
  have HQ := Lib.hid (Whole.new w2 44 #[.pointer (some ⟨g, 0, none⟩)] rfl)
  have HT := Lib.hid ((HT.out.below' hb2).alloc (.cells #[.pointer (some ⟨g, 0, none⟩)] 44))
  have HR := Lib.hid (hR.below ((Below.refl w2.heap.size w2).alloc (Nat.le_refl _) (.cells #[.pointer (some ⟨g, 0, none⟩)] 44)))
  have HB3 := Lib.hid (HB2.out.alloc HB2.out.size (.cells #[.pointer (some ⟨g, 0, none⟩)] 44))
  have hgl := hR.1.lt
  have hgw : w.heap.size < g := by simp at hg0; omega
  obtain ⟨q, hq⟩ : ∃ q, w2.heap.size = q := ⟨_, rfl⟩
  have hs3 : (w2.alloc (.cells #[.pointer (some ⟨g, 0, none⟩)] 44)).heap.size = q + 1 := by simp [hq]
  rw [hq] at HQ hgl
  clear hb2 hR hg0
  have hmf : ∀ (fn : Fn) (first cap : Array Value) (w : World), (Instr.makeFunc fn first cap).run Tryd.prog w = .ok (.func fn first cap) w := fun _ _ _ _ => rfl
  go_wp2_with fail
  obtain ⟨w3, hw3⟩ : ∃ w3, w2.alloc (.cells #[.pointer (some ⟨g, 0, none⟩)] 44) = w3 := ⟨_, rfl⟩
  rw [hw3] at HQ HT HR HB3 hs3 ⊢
  try rw [hq]
  clear hw3
  refine (tryH_ret 29 #[.pointer (some ⟨q, 0, none⟩)] s y mo d h mi se me c p z wd lt pl w3 (RdR g A2 m c2 L 0) (fun _ => by kernel_rfl) (keep_rdr _ g A2 m c2 L 0 (by omega))
    (fun w' hb => pclo_ret g q A2 m c2 L s y mo d h mi se me c p z wd lt pl w' (HQ.out.below' hb) (by have := hb.size; omega) (fun w'' hb2 => HRD.out g A2 c2 w'' ((HR.out.below hb).below hb2) (by omega) (HE.out.below (HB3.out.trans ((hb.trans (hb2.mono hb.size)).mono HB3.out.size))) hc1 hc2))).mono ?_
  rintro e w5 ⟨rfl, u1, u2, hb4, hMv, hb5⟩
  have HT := Lib.hid ((hMv.1.whole (HT.out.below' hb4) (by omega)).below hb5 (by omega))
  have HQ := Lib.hid ((hMv.1.whole (HQ.out.below' hb4) (by omega)).below hb5 (by omega))
  have HG := Lib.hid ((hMv.2 rfl).below hb5 (by omega))
  have HB5 := Lib.hid ((hMv.1.below (HB3.out.trans (hb4.mono HB3.out.size)) (by omega) (by have := HB3.out.size; have := hb4.size; omega)).trans (hb5.mono HB3.out.size))
  clear hMv hb4 hb5
  have v0 := HT.out.cell 0
  have v1 := HT.out.cell 1
  have v2 := HT.out.cell 2
  have v3 := HT.out.cell 3
  have v4 := HT.out.cell 4
  have v5 := HT.out.cell 5
  have v6 := HT.out.cell 6
  have v7 := HT.out.cell 7
  have v8 := HT.out.cell 8
  have v9 := HT.out.cell 9
  have v10 := HT.out.cell 10
  have v11 := HT.out.cell 11
  have v12 := HT.out.cell 12
  have v13 := HT.out.cell 13
  simp at v0 v1 v2 v3 v4 v5 v6 v7 v8 v9 v10 v11 v12 v13
  have f0 := HT.out.free 0
  have f1 := HT.out.free 1
  have f2 := HT.out.free 2
  have f3 := HT.out.free 3
  have f4 := HT.out.free 4
  have f5 := HT.out.free 5
  have f6 := HT.out.free 6
  have f7 := HT.out.free 7
  have f8 := HT.out.free 8
  have f9 := HT.out.free 9
  have f10 := HT.out.free 10
  have f11 := HT.out.free 11
  have f12 := HT.out.free 12
  have f13 := HT.out.free 13
  have hlT := HT.out.lt
  have hlQ := HQ.out.lt
  have p0 := HQ.out.cell 0
  simp at p0
  have HAT := Lib.hid (fun w' (h : Whole w' g 70 #[.slice A2 m c2, .int .i64 (L : Nat)]) => at_whole g A2 m c2 L w' h)
  have HGA := Lib.hid (show Whole (w5.alloc (.cells #[.string s, .int .i64 y, .int .i64 mo, .int .i64 d, .int .i64 h, .int .i64 mi, .int .i64 se, .int .i64 me, .int .u32 c, .int .i64 p, .int .i64 z, .bool wd, .bool lt, .int .i64 pl] 28)).drew g 70 #[.slice A2 m c2, .int .i64 (L : Nat)] from HG.out.alloc (.cells #[.string s, .int .i64 y, .int .i64 mo, .int .i64 d, .int .i64 h, .int .i64 mi, .int .i64 se, .int .i64 me, .int .u32 c, .int .i64 p, .int .i64 z, .bool wd, .bool lt, .int .i64 pl] 28))
  have e9 : IntKind.i64.wrap ((at' : Int) + L) = (at' : Int) + L := IntWalk.i64_in _ (by omega)
  go_wp2
  go_region_law (first
    | (go_simp
       go_at_call 18
       refine (HAT.out _ HGA.out).mono ?_
       rintro e wy ⟨rfl, rfl⟩))
  all_goals
    go_wp2
    clear v0 f0 v1 f1 v2 f2 v3 f3 v4 f4 v5 f5 v6 f6 v7 f7 v8 f8 v9 f9 v10 f10 v11 f11 v12 f12 v13 f13
    obtain ⟨x0, hw⟩ : ∃ x, (w5.setCell ⟨w.heap.size, 0, none⟩ (.string s)) = x := ⟨_, rfl⟩
    rw [hw]
    have HT : Hid (Whole x0 w.heap.size 28 #[.string s, .int .i64 0, .int .i64 0, .int .i64 0, .int .i64 0, .int .i64 0, .int .i64 0, .int .i64 0, .int .u32 0, .int .i64 0, .int .i64 0, .bool false, .bool false, .int .i64 0]) := Lib.hid (hw ▸ HT.out.put 0 (.string s) rfl)
    have HB5 : Hid (Below w.heap.size w x0) := Lib.hid (hw ▸ HB5.out.setCell (p := ⟨w.heap.size, 0, none⟩) (Nat.le_refl _) (.string s))
    clear hw
    obtain ⟨x1, hw⟩ : ∃ x, (x0.setCell ⟨w.heap.size, 1, none⟩ (.int .i64 y)) = x := ⟨_, rfl⟩
    rw [hw]
    have HT : Hid (Whole x1 w.heap.size 28 #[.string s, .int .i64 y, .int .i64 0, .int .i64 0, .int .i64 0, .int .i64 0, .int .i64 0, .int .i64 0, .int .u32 0, .int .i64 0, .int .i64 0, .bool false, .bool false, .int .i64 0]) := Lib.hid (hw ▸ HT.out.put 1 (.int .i64 y) rfl)
    have HB5 : Hid (Below w.heap.size w x1) := Lib.hid (hw ▸ HB5.out.setCell (p := ⟨w.heap.size, 1, none⟩) (Nat.le_refl _) (.int .i64 y))
    clear hw
    obtain ⟨x2, hw⟩ : ∃ x, (x1.setCell ⟨w.heap.size, 2, none⟩ (.int .i64 mo)) = x := ⟨_, rfl⟩
    rw [hw]
    have HT : Hid (Whole x2 w.heap.size 28 #[.string s, .int .i64 y, .int .i64 mo, .int .i64 0, .int .i64 0, .int .i64 0, .int .i64 0, .int .i64 0, .int .u32 0, .int .i64 0, .int .i64 0, .bool false, .bool false, .int .i64 0]) := Lib.hid (hw ▸ HT.out.put 2 (.int .i64 mo) rfl)
    have HB5 : Hid (Below w.heap.size w x2) := Lib.hid (hw ▸ HB5.out.setCell (p := ⟨w.heap.size, 2, none⟩) (Nat.le_refl _) (.int .i64 mo))
    clear hw
    obtain ⟨x3, hw⟩ : ∃ x, (x2.setCell ⟨w.heap.size, 3, none⟩ (.int .i64 d)) = x := ⟨_, rfl⟩
    rw [hw]
    have HT : Hid (Whole x3 w.heap.size 28 #[.string s, .int .i64 y, .int .i64 mo, .int .i64 d, .int .i64 0, .int .i64 0, .int .i64 0, .int .i64 0, .int .u32 0, .int .i64 0, .int .i64 0, .bool false, .bool false, .int .i64 0]) := Lib.hid (hw ▸ HT.out.put 3 (.int .i64 d) rfl)
    have HB5 : Hid (Below w.heap.size w x3) := Lib.hid (hw ▸ HB5.out.setCell (p := ⟨w.heap.size, 3, none⟩) (Nat.le_refl _) (.int .i64 d))
    clear hw
    obtain ⟨x4, hw⟩ : ∃ x, (x3.setCell ⟨w.heap.size, 4, none⟩ (.int .i64 h)) = x := ⟨_, rfl⟩
    rw [hw]
    have HT : Hid (Whole x4 w.heap.size 28 #[.string s, .int .i64 y, .int .i64 mo, .int .i64 d, .int .i64 h, .int .i64 0, .int .i64 0, .int .i64 0, .int .u32 0, .int .i64 0, .int .i64 0, .bool false, .bool false, .int .i64 0]) := Lib.hid (hw ▸ HT.out.put 4 (.int .i64 h) rfl)
    have HB5 : Hid (Below w.heap.size w x4) := Lib.hid (hw ▸ HB5.out.setCell (p := ⟨w.heap.size, 4, none⟩) (Nat.le_refl _) (.int .i64 h))
    clear hw
    obtain ⟨x5, hw⟩ : ∃ x, (x4.setCell ⟨w.heap.size, 5, none⟩ (.int .i64 mi)) = x := ⟨_, rfl⟩
    rw [hw]
    have HT : Hid (Whole x5 w.heap.size 28 #[.string s, .int .i64 y, .int .i64 mo, .int .i64 d, .int .i64 h, .int .i64 mi, .int .i64 0, .int .i64 0, .int .u32 0, .int .i64 0, .int .i64 0, .bool false, .bool false, .int .i64 0]) := Lib.hid (hw ▸ HT.out.put 5 (.int .i64 mi) rfl)
    have HB5 : Hid (Below w.heap.size w x5) := Lib.hid (hw ▸ HB5.out.setCell (p := ⟨w.heap.size, 5, none⟩) (Nat.le_refl _) (.int .i64 mi))
    clear hw
    obtain ⟨x6, hw⟩ : ∃ x, (x5.setCell ⟨w.heap.size, 6, none⟩ (.int .i64 se)) = x := ⟨_, rfl⟩
    rw [hw]
    have HT : Hid (Whole x6 w.heap.size 28 #[.string s, .int .i64 y, .int .i64 mo, .int .i64 d, .int .i64 h, .int .i64 mi, .int .i64 se, .int .i64 0, .int .u32 0, .int .i64 0, .int .i64 0, .bool false, .bool false, .int .i64 0]) := Lib.hid (hw ▸ HT.out.put 6 (.int .i64 se) rfl)
    have HB5 : Hid (Below w.heap.size w x6) := Lib.hid (hw ▸ HB5.out.setCell (p := ⟨w.heap.size, 6, none⟩) (Nat.le_refl _) (.int .i64 se))
    clear hw
    obtain ⟨x7, hw⟩ : ∃ x, (x6.setCell ⟨w.heap.size, 7, none⟩ (.int .i64 me)) = x := ⟨_, rfl⟩
    rw [hw]
    have HT : Hid (Whole x7 w.heap.size 28 #[.string s, .int .i64 y, .int .i64 mo, .int .i64 d, .int .i64 h, .int .i64 mi, .int .i64 se, .int .i64 me, .int .u32 0, .int .i64 0, .int .i64 0, .bool false, .bool false, .int .i64 0]) := Lib.hid (hw ▸ HT.out.put 7 (.int .i64 me) rfl)
    have HB5 : Hid (Below w.heap.size w x7) := Lib.hid (hw ▸ HB5.out.setCell (p := ⟨w.heap.size, 7, none⟩) (Nat.le_refl _) (.int .i64 me))
    clear hw
    obtain ⟨x8, hw⟩ : ∃ x, (x7.setCell ⟨w.heap.size, 8, none⟩ (.int .u32 c)) = x := ⟨_, rfl⟩
    rw [hw]
    have HT : Hid (Whole x8 w.heap.size 28 #[.string s, .int .i64 y, .int .i64 mo, .int .i64 d, .int .i64 h, .int .i64 mi, .int .i64 se, .int .i64 me, .int .u32 c, .int .i64 0, .int .i64 0, .bool false, .bool false, .int .i64 0]) := Lib.hid (hw ▸ HT.out.put 8 (.int .u32 c) rfl)
    have HB5 : Hid (Below w.heap.size w x8) := Lib.hid (hw ▸ HB5.out.setCell (p := ⟨w.heap.size, 8, none⟩) (Nat.le_refl _) (.int .u32 c))
    clear hw
    obtain ⟨x9, hw⟩ : ∃ x, (x8.setCell ⟨w.heap.size, 9, none⟩ (.int .i64 p)) = x := ⟨_, rfl⟩
    rw [hw]
    have HT : Hid (Whole x9 w.heap.size 28 #[.string s, .int .i64 y, .int .i64 mo, .int .i64 d, .int .i64 h, .int .i64 mi, .int .i64 se, .int .i64 me, .int .u32 c, .int .i64 p, .int .i64 0, .bool false, .bool false, .int .i64 0]) := Lib.hid (hw ▸ HT.out.put 9 (.int .i64 p) rfl)
    have HB5 : Hid (Below w.heap.size w x9) := Lib.hid (hw ▸ HB5.out.setCell (p := ⟨w.heap.size, 9, none⟩) (Nat.le_refl _) (.int .i64 p))
    clear hw
    obtain ⟨x10, hw⟩ : ∃ x, (x9.setCell ⟨w.heap.size, 10, none⟩ (.int .i64 z)) = x := ⟨_, rfl⟩
    rw [hw]
    have HT : Hid (Whole x10 w.heap.size 28 #[.string s, .int .i64 y, .int .i64 mo, .int .i64 d, .int .i64 h, .int .i64 mi, .int .i64 se, .int .i64 me, .int .u32 c, .int .i64 p, .int .i64 z, .bool false, .bool false, .int .i64 0]) := Lib.hid (hw ▸ HT.out.put 10 (.int .i64 z) rfl)
    have HB5 : Hid (Below w.heap.size w x10) := Lib.hid (hw ▸ HB5.out.setCell (p := ⟨w.heap.size, 10, none⟩) (Nat.le_refl _) (.int .i64 z))
    clear hw
    obtain ⟨x11, hw⟩ : ∃ x, (x10.setCell ⟨w.heap.size, 11, none⟩ (.bool wd)) = x := ⟨_, rfl⟩
    rw [hw]
    have HT : Hid (Whole x11 w.heap.size 28 #[.string s, .int .i64 y, .int .i64 mo, .int .i64 d, .int .i64 h, .int .i64 mi, .int .i64 se, .int .i64 me, .int .u32 c, .int .i64 p, .int .i64 z, .bool wd, .bool false, .int .i64 0]) := Lib.hid (hw ▸ HT.out.put 11 (.bool wd) rfl)
    have HB5 : Hid (Below w.heap.size w x11) := Lib.hid (hw ▸ HB5.out.setCell (p := ⟨w.heap.size, 11, none⟩) (Nat.le_refl _) (.bool wd))
    clear hw
    obtain ⟨x12, hw⟩ : ∃ x, (x11.setCell ⟨w.heap.size, 12, none⟩ (.bool lt)) = x := ⟨_, rfl⟩
    rw [hw]
    have HT : Hid (Whole x12 w.heap.size 28 #[.string s, .int .i64 y, .int .i64 mo, .int .i64 d, .int .i64 h, .int .i64 mi, .int .i64 se, .int .i64 me, .int .u32 c, .int .i64 p, .int .i64 z, .bool wd, .bool lt, .int .i64 0]) := Lib.hid (hw ▸ HT.out.put 12 (.bool lt) rfl)
    have HB5 : Hid (Below w.heap.size w x12) := Lib.hid (hw ▸ HB5.out.setCell (p := ⟨w.heap.size, 12, none⟩) (Nat.le_refl _) (.bool lt))
    clear hw
    obtain ⟨x13, hw⟩ : ∃ x, (x12.setCell ⟨w.heap.size, 13, none⟩ (.int .i64 pl)) = x := ⟨_, rfl⟩
    rw [hw]
    have HT : Hid (Whole x13 w.heap.size 28 #[.string s, .int .i64 y, .int .i64 mo, .int .i64 d, .int .i64 h, .int .i64 mi, .int .i64 se, .int .i64 me, .int .u32 c, .int .i64 p, .int .i64 z, .bool wd, .bool lt, .int .i64 pl]) := Lib.hid (hw ▸ HT.out.put 13 (.int .i64 pl) rfl)
    have HB5 : Hid (Below w.heap.size w x13) := Lib.hid (hw ▸ HB5.out.setCell (p := ⟨w.heap.size, 13, none⟩) (Nat.le_refl _) (.int .i64 pl))
    clear hw
    have HT := Lib.hid (HT.out.alloc (.cells #[.string s, .int .i64 y, .int .i64 mo, .int .i64 d, .int .i64 h, .int .i64 mi, .int .i64 se, .int .i64 me, .int .u32 c, .int .i64 p, .int .i64 z, .bool wd, .bool lt, .int .i64 pl] 28))
    have HB5 := Lib.hid (HB5.out.alloc HB5.out.size (.cells #[.string s, .int .i64 y, .int .i64 mo, .int .i64 d, .int .i64 h, .int .i64 mi, .int .i64 se, .int .i64 me, .int .u32 c, .int .i64 p, .int .i64 z, .bool wd, .bool lt, .int .i64 pl] 28))
    have q1 := HT.out.cell 0
    have q2 := HT.out.cell 1
    have q3 := HT.out.cell 2
    have q4 := HT.out.cell 3
    have q5 := HT.out.cell 4
    have q6 := HT.out.cell 5
    have q7 := HT.out.cell 6
    have q8 := HT.out.cell 7
    have q9 := HT.out.cell 8
    have q10 := HT.out.cell 9
    have q11 := HT.out.cell 10
    have q12 := HT.out.cell 11
    have q13 := HT.out.cell 12
    have q14 := HT.out.cell 13
    simp at q1 q2 q3 q4 q5 q6 q7 q8 q9 q10 q11 q12 q13 q14
    simp [bodyPost, results, Tryd.results12, go_sem, q1, q2, q3, q4, q5, q6, q7, q8, q9, q10, q11, q12, q13, q14]
    exact HB5.out.drew
end Go.Proofs.YtdmglpnieiiigaaDoor
