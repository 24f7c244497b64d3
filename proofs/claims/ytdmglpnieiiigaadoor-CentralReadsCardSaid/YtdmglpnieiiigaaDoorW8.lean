/- The law of reading. -/
import Derived.Test.YtdmglpnieiiigaaDoorW7
import Derived.Test.YtdmglpnieiiigaaDoorT2
import Derived.Test.YtdmglpnieiiigaaDoorW2
namespace Go.Proofs.YtdmglpnieiiigaaDoor
open Go.RowKit

theorem eq_en2 (s : ByteArray) (y mo d h mi se me c p z : Int) (wd lt : Bool) (pl : Int) (w : World) : (Op.equalIn 10000 28 (.agg #[.string s, .int .i64 y, .int .i64 mo, .int .i64 d, .int .i64 h, .int .i64 mi, .int .i64 se, .int .i64 me, .int .u32 c, .int .i64 p, .int .i64 z, .bool wd, .bool lt, .int .i64 pl]) (.agg #[.string s, .int .i64 y, .int .i64 mo, .int .i64 d, .int .i64 h, .int .i64 mi, .int .i64 se, .int .i64 me, .int .u32 c, .int .i64 p, .int .i64 z, .bool wd, .bool lt, .int .i64 pl])).run Tryd.prog w = .ok true w := by
  simp [go_sem]
theorem eq_hd30 (s : ByteArray) (y mo d h mi se me c p z : Int) (wd lt : Bool) (w : World) : (Op.equalIn 10000 30 (.agg #[.string s, .int .i64 y, .int .i64 mo, .int .i64 d, .int .i64 h, .int .i64 mi, .int .i64 se, .int .i64 me, .int .u32 c, .int .i64 p, .int .i64 z, .bool wd, .bool lt]) (.agg #[.string s, .int .i64 y, .int .i64 mo, .int .i64 d, .int .i64 h, .int .i64 mi, .int .i64 se, .int .i64 me, .int .u32 c, .int .i64 p, .int .i64 z, .bool wd, .bool lt])).run Tryd.prog w = .ok true w := by
  simp [go_sem]
theorem reads_long (A : Option Addr) (n cA : Nat) (at' : Int) (W : World) (hE : Env W) (hn : 1000 < n) : Calls Tryd.prog 4 #[.slice A n cA, .int .i64 at'] W fun e w' => e = .returned (.bool true) ∧ Below W.heap.size W w' := by
  have d1 : decide (1000 < n) = true := decide_eq_true hn
  have d1' : decide ((1000 : Int) < (n : Int)) = true := decide_eq_true (by omega)
  have HE := Lib.hid hE
  clear hE
  go_enter Tryd.func4, Tryd.ntmps4
  go_wp2_with fail
  refine (cawake_any W HE.out).mono ?_
  rintro e w1 ⟨rfl, hb1⟩
  have HB := Lib.hid hb1
  clear hb1
  go_wp2
  go_ret
  exact ⟨rfl, HB.out⟩
theorem reads_range (A : Option Addr) (n cA : Nat) (at' : Int) (W : World) (hE : Env W) (hn : n ≤ 1000) (h : at' < 0 ∨ (n : Int) < at') : Calls Tryd.prog 4 #[.slice A n cA, .int .i64 at'] W fun e w' => e = .returned (.bool true) ∧ Below W.heap.size W w' := by
  have d1 : decide (1000 < n) = false := decide_eq_false (by omega)
  have d1' : decide ((1000 : Int) < (n : Int)) = false := decide_eq_false (by omega)
  have HE := Lib.hid hE
  have HP := Lib.hid (fun w => parse_range A n cA at' w h)
  have Q0 := eq_en2 ⟨#[]⟩ 0 0 0 0 0 0 0 0 0 0 false false 0
  by_cases h0 : at' < 0
  · have d0 : decide (at' < 0) = true := decide_eq_true h0
    clear hE h h0
    go_enter Tryd.func4, Tryd.ntmps4
    go_wp2_with fail
    refine (cawake_any W HE.out).mono ?_
    rintro e w1 ⟨rfl, hb1⟩
    have HB := Lib.hid hb1
    clear hb1
    go_wp2_with fail
    refine (HP.out _).mono ?_
    rintro e w2 ⟨rfl, hb2⟩
    have HB := Lib.hid (HB.out.trans (hb2.mono HB.out.size))
    clear hb2
    have HY := Lib.hid (Whole.new w2 28 #[.string ⟨#[]⟩, .int .i64 0, .int .i64 0, .int .i64 0, .int .i64 0, .int .i64 0, .int .i64 0, .int .i64 0, .int .u32 0, .int .i64 0, .int .i64 0, .bool false, .bool false, .int .i64 0] rfl)
    have HB := Lib.hid (HB.out.alloc HB.out.size (.cells #[.string ⟨#[]⟩, .int .i64 0, .int .i64 0, .int .i64 0, .int .i64 0, .int .i64 0, .int .i64 0, .int .i64 0, .int .u32 0, .int .i64 0, .int .i64 0, .bool false, .bool false, .int .i64 0] 28))
    have y0 := HY.out.cell 0
    have y1 := HY.out.cell 1
    have y2 := HY.out.cell 2
    have y3 := HY.out.cell 3
    have y4 := HY.out.cell 4
    have y5 := HY.out.cell 5
    have y6 := HY.out.cell 6
    have y7 := HY.out.cell 7
    have y8 := HY.out.cell 8
    have y9 := HY.out.cell 9
    have y10 := HY.out.cell 10
    have y11 := HY.out.cell 11
    have y12 := HY.out.cell 12
    have y13 := HY.out.cell 13
    simp at y0 y1 y2 y3 y4 y5 y6 y7 y8 y9 y10 y11 y12 y13
    go_wp2
    go_ret
    exact ⟨rfl, HB.out⟩
  · have d0 : decide (at' < 0) = false := decide_eq_false h0
    have d2 : decide ((n : Int) < at') = true := decide_eq_true (by omega)
    clear hE h h0
    go_enter Tryd.func4, Tryd.ntmps4
    go_wp2_with fail
    refine (cawake_any W HE.out).mono ?_
    rintro e w1 ⟨rfl, hb1⟩
    have HB := Lib.hid hb1
    clear hb1
    go_wp2_with fail
    refine (HP.out _).mono ?_
    rintro e w2 ⟨rfl, hb2⟩
    have HB := Lib.hid (HB.out.trans (hb2.mono HB.out.size))
    clear hb2
    have HY := Lib.hid (Whole.new w2 28 #[.string ⟨#[]⟩, .int .i64 0, .int .i64 0, .int .i64 0, .int .i64 0, .int .i64 0, .int .i64 0, .int .i64 0, .int .u32 0, .int .i64 0, .int .i64 0, .bool false, .bool false, .int .i64 0] rfl)
    have HB := Lib.hid (HB.out.alloc HB.out.size (.cells #[.string ⟨#[]⟩, .int .i64 0, .int .i64 0, .int .i64 0, .int .i64 0, .int .i64 0, .int .i64 0, .int .i64 0, .int .u32 0, .int .i64 0, .int .i64 0, .bool false, .bool false, .int .i64 0] 28))
    have y0 := HY.out.cell 0
    have y1 := HY.out.cell 1
    have y2 := HY.out.cell 2
    have y3 := HY.out.cell 3
    have y4 := HY.out.cell 4
    have y5 := HY.out.cell 5
    have y6 := HY.out.cell 6
    have y7 := HY.out.cell 7
    have y8 := HY.out.cell 8
    have y9 := HY.out.cell 9
    have y10 := HY.out.cell 10
    have y11 := HY.out.cell 11
    have y12 := HY.out.cell 12
    have y13 := HY.out.cell 13
    simp at y0 y1 y2 y3 y4 y5 y6 y7 y8 y9 y10 y11 y12 y13
    go_wp2
    go_ret
    exact ⟨rfl, HB.out⟩
set_option maxHeartbeats 8000000 in
set_option maxRecDepth 100000 in
theorem reads_none_eq (A : Option Addr) (n L : Nat) (xs : List UInt8) (K1 K2 : Int) (v : Value) (hK1 : (K1 == 0) = false) (hK2 : (K2 == 0) = false) (W : World) (hE : Env W) (hn : n ≤ 1000)
    (HP : Hid (∀ w, Below W.heap.size W w → Calls Tryd.prog 12 #[.slice A n n, .int .i64 (n : Nat)] w fun e w' => e = .returned (.tuple #[.agg #[.string ⟨#[]⟩, .int .i64 0, .int .i64 0, .int .i64 0, .int .i64 0, .int .i64 0, .int .i64 0, .int .i64 0, .int .u32 0, .int .i64 0, .int .i64 0, .bool false, .bool false, .int .i64 0], .int .i64 0, .int .i64 K1]) ∧ Below w.heap.size w w'))
    (HQ : Hid (∀ w, Below W.heap.size W w → Calls Tryd.prog 13 #[.slice A 0 0] w (RPost w (.agg #[.string ⟨#[]⟩, .int .i64 0, .int .i64 0, .int .i64 0, .int .i64 0, .int .i64 0, .int .i64 0, .int .i64 0, .int .u32 0, .int .i64 0, .int .i64 0, .bool false, .bool false]) 0 0)))
    (HS : Hid (∀ w, Below W.heap.size W w → Bs w (fun b => b < W.heap.size) A 0 xs))
    (HRD : Hid (∀ g A2 cp w', Env w' → Rdr w' g A2 0 cp xs 0 → 0 ≤ cp → cp ≤ 9223372036854775807 → 3 ≤ g → Calls Tryd.prog 17 #[.pointer (some ⟨g, 0, none⟩)] w' (RdH w' g A2 0 cp L K2 v)))
    : Calls Tryd.prog 4 #[.slice A n n, .int .i64 (n : Nat)] W fun e w' => e = .returned (.bool true) ∧ Below W.heap.size W w' := by
  have d1 : decide (1000 < n) = false := decide_eq_false (by omega)
  have d1' : decide ((1000 : Int) < (n : Int)) = false := decide_eq_false (by omega)
  have g2 : 2 < W.heap.size := World.block_lt_of_cell? W _ hE.2.choose_spec
  have HE := Lib.hid hE
  have d2 : decide ((n : Int) < 0) = false := decide_eq_false (by omega)
  have k1 : (K1 != 0) = true := by rw [bne, hK1]; rfl
  have k2 : (K2 != 0) = true := by rw [bne, hK2]; rfl
  have HK2 := Lib.hid (show K2 ≠ 0 by simpa using hK2)
  have Q0 := eq_en2 ⟨#[]⟩ 0 0 0 0 0 0 0 0 0 0 false false 0
  clear hn hE
  go_enter Tryd.func4, Tryd.ntmps4
  go_wp2_with fail
  refine (cawake_any W HE.out).mono ?_
  rintro e w1 ⟨rfl, hb1⟩
  have HB := Lib.hid hb1
  clear hb1
  go_wp2_with fail
  refine (HP.out _ HB.out).mono ?_
  rintro e w2 ⟨rfl, hb2⟩
  have HB := Lib.hid (HB.out.trans (hb2.mono HB.out.size))
  have HBW := HB
  clear hb2
  obtain ⟨w3, hw3⟩ : ∃ w3, w2.alloc (.cells #[.string ⟨#[]⟩, .int .i64 0, .int .i64 0, .int .i64 0, .int .i64 0, .int .i64 0, .int .i64 0, .int .i64 0, .int .u32 0, .int .i64 0, .int .i64 0, .bool false, .bool false, .int .i64 0] 28) = w3 := ⟨_, rfl⟩
  have HY : Hid (Whole w3 w2.heap.size 28 #[.string ⟨#[]⟩, .int .i64 0, .int .i64 0, .int .i64 0, .int .i64 0, .int .i64 0, .int .i64 0, .int .i64 0, .int .u32 0, .int .i64 0, .int .i64 0, .bool false, .bool false, .int .i64 0]) := Lib.hid (hw3 ▸ Whole.new w2 28 _ rfl)
  have HB : Hid (Below W.heap.size W w3) := Lib.hid (hw3 ▸ HB.out.alloc HB.out.size _)
  have HW3 := Lib.hid hw3
  have hsy : W.heap.size ≤ w2.heap.size := by
    exact HBW.out.size
  clear hw3
  go_wp2_with fail
  rw [HW3.out]
  refine (HQ.out _ HB.out).mono ?_
  rintro e w4 ⟨rfl, hb4⟩
  have HB := Lib.hid (HB.out.trans (hb4.mono HB.out.size))
  have HY := Lib.hid (HY.out.below' hb4)
  clear hb4
  have hy4 := HY.out.lt
  obtain ⟨w5, hw5⟩ : ∃ w5, w4.alloc (.cells #[.string ⟨#[]⟩, .int .i64 0, .int .i64 0, .int .i64 0, .int .i64 0, .int .i64 0, .int .i64 0, .int .i64 0, .int .u32 0, .int .i64 0, .int .i64 0, .bool false, .bool false] 30) = w5 := ⟨_, rfl⟩
  have HX : Hid (Whole w5 w4.heap.size 30 #[.string ⟨#[]⟩, .int .i64 0, .int .i64 0, .int .i64 0, .int .i64 0, .int .i64 0, .int .i64 0, .int .i64 0, .int .u32 0, .int .i64 0, .int .i64 0, .bool false, .bool false]) := Lib.hid (hw5 ▸ Whole.new w4 30 _ rfl)
  have HY : Hid (Whole w5 w2.heap.size 28 #[.string ⟨#[]⟩, .int .i64 0, .int .i64 0, .int .i64 0, .int .i64 0, .int .i64 0, .int .i64 0, .int .i64 0, .int .u32 0, .int .i64 0, .int .i64 0, .bool false, .bool false, .int .i64 0]) := Lib.hid (hw5 ▸ HY.out.alloc _)
  have HB : Hid (Below W.heap.size W w5) := Lib.hid (hw5 ▸ HB.out.alloc HB.out.size _)
  have HW5 := Lib.hid hw5
  have hsz5 : w5.heap.size = w4.heap.size + 1 := by rw [← hw5]; simp
  clear hw5
  go_wp2_with fail
  rw [HW5.out]
  refine (over_any A 0 0 xs _ w5 (HS.out _ HB.out) (by omega)).mono ?_
  rintro e w9 ⟨A2, cp, g, rfl, hg0, hRd, hc1, hc2, hb9⟩
  have hb9s := hb9.size
  have HB := Lib.hid (HB.out.trans (hb9.mono HB.out.size))
  have HY := Lib.hid ((HY.out.below' hb9).alloc (.cells #[.pointer (some ⟨g, 0, none⟩)] 44))
  have HX := Lib.hid ((HX.out.below' hb9).alloc (.cells #[.pointer (some ⟨g, 0, none⟩)] 44))
  have HQ9 := Lib.hid (Whole.new w9 44 #[.pointer (some ⟨g, 0, none⟩)] rfl)
  have HRd := Lib.hid (hRd.below ((Below.refl w9.heap.size w9).alloc (Nat.le_refl _) (.cells #[.pointer (some ⟨g, 0, none⟩)] 44)))
  have HB := Lib.hid (HB.out.alloc HB.out.size (.cells #[.pointer (some ⟨g, 0, none⟩)] 44))
  have hgl := hRd.1.lt
  obtain ⟨q, hq⟩ : ∃ q, w9.heap.size = q := ⟨_, rfl⟩
  have hq5 : w5.heap.size ≤ q := by omega
  rw [hq] at HQ9 hgl
  clear hb9 hRd hb9s
  have hmf : ∀ (fn : Fn) (first cap : Array Value) (w : World), (Instr.makeFunc fn first cap).run Tryd.prog w = .ok (.func fn first cap) w := fun _ _ _ _ => rfl
  go_wp2_with fail
  obtain ⟨w10, hw10⟩ : ∃ w10, w9.alloc (.cells #[.pointer (some ⟨g, 0, none⟩)] 44) = w10 := ⟨_, rfl⟩
  have hs10 : w10.heap.size = q + 1 := by rw [← hw10, ← hq]; simp
  rw [hw10] at HY HX HRd HB HQ9 ⊢
  try rw [hq]
  clear hw10 hq
  have hy10 := HY.out.lt
  have hx10 := HX.out.lt
  refine (tryH_throw 16 #[.pointer (some ⟨q, 0, none⟩)] K2 w10 (RdR g A2 0 cp L K2) (fun _ => by kernel_rfl) (keep_rdr _ g A2 0 cp L K2 (by omega))
    (fun w' hb => lclo_throw g q A2 0 cp L K2 v w' HK2.out (HQ9.out.below' hb) (by have := hb.size; omega) (fun w'' hb2 => HRD.out g A2 cp w'' (HE.out.below (HB.out.trans ((hb.trans (hb2.mono hb.size)).mono HB.out.size))) ((HRd.out.below hb).below hb2) hc1 hc2 (by omega)))).mono ?_
  rintro e w11 ⟨rfl, u1, u2, hb4, hMv, hb5⟩
  have hb4s := hb4.size
  have HY := Lib.hid ((hMv.1.whole (HY.out.below' hb4) (by omega)).below hb5 (by omega))
  have HX := Lib.hid ((hMv.1.whole (HX.out.below' hb4) (by omega)).below hb5 (by omega))
  have HB := Lib.hid ((hMv.1.below (HB.out.trans (hb4.mono HB.out.size)) (by omega) (by have := HB.out.size; omega)).trans (hb5.mono HB.out.size))
  clear hMv hb4 hb5
  obtain ⟨w12, hw12⟩ : ∃ w12, w11.alloc (.cells #[.string ⟨#[]⟩, .int .i64 0, .int .i64 0, .int .i64 0, .int .i64 0, .int .i64 0, .int .i64 0, .int .i64 0, .int .u32 0, .int .i64 0, .int .i64 0, .bool false, .bool false, .int .i64 0] 28) = w12 := ⟨_, rfl⟩
  have HZ : Hid (Whole w12 w11.heap.size 28 #[.string ⟨#[]⟩, .int .i64 0, .int .i64 0, .int .i64 0, .int .i64 0, .int .i64 0, .int .i64 0, .int .i64 0, .int .u32 0, .int .i64 0, .int .i64 0, .bool false, .bool false, .int .i64 0]) := Lib.hid (hw12 ▸ Whole.new w11 28 _ rfl)
  have HY : Hid (Whole w12 w2.heap.size 28 #[.string ⟨#[]⟩, .int .i64 0, .int .i64 0, .int .i64 0, .int .i64 0, .int .i64 0, .int .i64 0, .int .i64 0, .int .u32 0, .int .i64 0, .int .i64 0, .bool false, .bool false, .int .i64 0]) := Lib.hid (hw12 ▸ HY.out.alloc _)
  have HX : Hid (Whole w12 w4.heap.size 30 #[.string ⟨#[]⟩, .int .i64 0, .int .i64 0, .int .i64 0, .int .i64 0, .int .i64 0, .int .i64 0, .int .i64 0, .int .u32 0, .int .i64 0, .int .i64 0, .bool false, .bool false]) := Lib.hid (hw12 ▸ HX.out.alloc _)
  have HB : Hid (Below W.heap.size W w12) := Lib.hid (hw12 ▸ HB.out.alloc HB.out.size _)
  have HW12 := Lib.hid hw12
  clear hw12
  have y0 := HY.out.cell 0
  have y1 := HY.out.cell 1
  have y2 := HY.out.cell 2
  have y3 := HY.out.cell 3
  have y4 := HY.out.cell 4
  have y5 := HY.out.cell 5
  have y6 := HY.out.cell 6
  have y7 := HY.out.cell 7
  have y8 := HY.out.cell 8
  have y9 := HY.out.cell 9
  have y10 := HY.out.cell 10
  have y11 := HY.out.cell 11
  have y12 := HY.out.cell 12
  have y13 := HY.out.cell 13
  simp at y0 y1 y2 y3 y4 y5 y6 y7 y8 y9 y10 y11 y12 y13
  simp only [← HW12.out] at y0 y1 y2 y3 y4 y5 y6 y7 y8 y9 y10 y11 y12 y13
  go_wp2
  go_ret
  exact ⟨rfl, by have := HB.out; rw [← HW12.out] at this; exact this⟩
set_option maxHeartbeats 8000000 in
set_option maxRecDepth 100000 in
theorem reads_none_ne (A : Option Addr) (n cA at' M L : Nat) (xs : List UInt8) (K1 K2 : Int) (v : Value) (hK1 : (K1 == 0) = false) (hK2 : (K2 == 0) = false) (W : World) (hE : Env W) (hn : n ≤ 1000) (hat : at' ≤ n) (hM : n - at' = M) (hnc : n ≤ cA) (hca : ¬ cA = at')
    (HP : Hid (∀ w, Below W.heap.size W w → Calls Tryd.prog 12 #[.slice A n cA, .int .i64 (at' : Nat)] w fun e w' => e = .returned (.tuple #[.agg #[.string ⟨#[]⟩, .int .i64 0, .int .i64 0, .int .i64 0, .int .i64 0, .int .i64 0, .int .i64 0, .int .i64 0, .int .u32 0, .int .i64 0, .int .i64 0, .bool false, .bool false, .int .i64 0], .int .i64 0, .int .i64 K1]) ∧ Below w.heap.size w w'))
    (HQ : Hid (∀ w, Below W.heap.size W w → Calls Tryd.prog 13 #[.slice (Option.map (fun x => x.add at') A) M (cA - at')] w (RPost w (.agg #[.string ⟨#[]⟩, .int .i64 0, .int .i64 0, .int .i64 0, .int .i64 0, .int .i64 0, .int .i64 0, .int .i64 0, .int .u32 0, .int .i64 0, .int .i64 0, .bool false, .bool false]) 0 0)))
    (HS : Hid (∀ w, Below W.heap.size W w → Bs w (fun b => b < W.heap.size) (Option.map (fun x => x.add at') A) M xs))
    (HRD : Hid (∀ g A2 cp w', Env w' → Rdr w' g A2 M cp xs 0 → M ≤ cp → cp ≤ 9223372036854775807 → 3 ≤ g → Calls Tryd.prog 17 #[.pointer (some ⟨g, 0, none⟩)] w' (RdH w' g A2 M cp L K2 v)))
    : Calls Tryd.prog 4 #[.slice A n cA, .int .i64 (at' : Nat)] W fun e w' => e = .returned (.bool true) ∧ Below W.heap.size W w' := by
  have d1 : decide (1000 < n) = false := decide_eq_false (by omega)
  have d1' : decide ((1000 : Int) < (n : Int)) = false := decide_eq_false (by omega)
  have g2 : 2 < W.heap.size := World.block_lt_of_cell? W _ hE.2.choose_spec
  have HE := Lib.hid hE
  have d2 : decide ((at' : Int) < 0) = false := decide_eq_false (by omega)
  have d3 : decide (n < at') = false := decide_eq_false (by omega)
  have d3' : decide ((n : Int) < (at' : Int)) = false := decide_eq_false (by omega)
  have i1 : (at' : Int) ≤ (n : Int) := by omega
  have i2 : (n : Int) ≤ (cA : Int) := by omega
  have hM3 : M ≤ 1000 := by omega
  have k1 : (K1 != 0) = true := by rw [bne, hK1]; rfl
  have k2 : (K2 != 0) = true := by rw [bne, hK2]; rfl
  have HK2 := Lib.hid (show K2 ≠ 0 by simpa using hK2)
  have Q0 := eq_en2 ⟨#[]⟩ 0 0 0 0 0 0 0 0 0 0 false false 0
  clear hn hE
  go_enter Tryd.func4, Tryd.ntmps4
  go_wp2_with fail
  refine (cawake_any W HE.out).mono ?_
  rintro e w1 ⟨rfl, hb1⟩
  have HB := Lib.hid hb1
  clear hb1
  go_wp2_with fail
  refine (HP.out _ HB.out).mono ?_
  rintro e w2 ⟨rfl, hb2⟩
  have HB := Lib.hid (HB.out.trans (hb2.mono HB.out.size))
  have HBW := HB
  clear hb2
  obtain ⟨w3, hw3⟩ : ∃ w3, w2.alloc (.cells #[.string ⟨#[]⟩, .int .i64 0, .int .i64 0, .int .i64 0, .int .i64 0, .int .i64 0, .int .i64 0, .int .i64 0, .int .u32 0, .int .i64 0, .int .i64 0, .bool false, .bool false, .int .i64 0] 28) = w3 := ⟨_, rfl⟩
  have HY : Hid (Whole w3 w2.heap.size 28 #[.string ⟨#[]⟩, .int .i64 0, .int .i64 0, .int .i64 0, .int .i64 0, .int .i64 0, .int .i64 0, .int .i64 0, .int .u32 0, .int .i64 0, .int .i64 0, .bool false, .bool false, .int .i64 0]) := Lib.hid (hw3 ▸ Whole.new w2 28 _ rfl)
  have HB : Hid (Below W.heap.size W w3) := Lib.hid (hw3 ▸ HB.out.alloc HB.out.size _)
  have HW3 := Lib.hid hw3
  have hsy : W.heap.size ≤ w2.heap.size := by
    exact HBW.out.size
  clear hw3
  go_wp2_with fail
  rw [HW3.out]
  refine (HQ.out _ HB.out).mono ?_
  rintro e w4 ⟨rfl, hb4⟩
  have HB := Lib.hid (HB.out.trans (hb4.mono HB.out.size))
  have HY := Lib.hid (HY.out.below' hb4)
  clear hb4
  have hy4 := HY.out.lt
  obtain ⟨w5, hw5⟩ : ∃ w5, w4.alloc (.cells #[.string ⟨#[]⟩, .int .i64 0, .int .i64 0, .int .i64 0, .int .i64 0, .int .i64 0, .int .i64 0, .int .i64 0, .int .u32 0, .int .i64 0, .int .i64 0, .bool false, .bool false] 30) = w5 := ⟨_, rfl⟩
  have HX : Hid (Whole w5 w4.heap.size 30 #[.string ⟨#[]⟩, .int .i64 0, .int .i64 0, .int .i64 0, .int .i64 0, .int .i64 0, .int .i64 0, .int .i64 0, .int .u32 0, .int .i64 0, .int .i64 0, .bool false, .bool false]) := Lib.hid (hw5 ▸ Whole.new w4 30 _ rfl)
  have HY : Hid (Whole w5 w2.heap.size 28 #[.string ⟨#[]⟩, .int .i64 0, .int .i64 0, .int .i64 0, .int .i64 0, .int .i64 0, .int .i64 0, .int .i64 0, .int .u32 0, .int .i64 0, .int .i64 0, .bool false, .bool false, .int .i64 0]) := Lib.hid (hw5 ▸ HY.out.alloc _)
  have HB : Hid (Below W.heap.size W w5) := Lib.hid (hw5 ▸ HB.out.alloc HB.out.size _)
  have HW5 := Lib.hid hw5
  have hsz5 : w5.heap.size = w4.heap.size + 1 := by rw [← hw5]; simp
  clear hw5
  go_wp2_with fail
  rw [HW5.out]
  refine (over_any (Option.map (fun x => x.add at') A) M (cA - at') xs _ w5 (HS.out _ HB.out) (by omega)).mono ?_
  rintro e w9 ⟨A2, cp, g, rfl, hg0, hRd, hc1, hc2, hb9⟩
  have hb9s := hb9.size
  have HB := Lib.hid (HB.out.trans (hb9.mono HB.out.size))
  have HY := Lib.hid ((HY.out.below' hb9).alloc (.cells #[.pointer (some ⟨g, 0, none⟩)] 44))
  have HX := Lib.hid ((HX.out.below' hb9).alloc (.cells #[.pointer (some ⟨g, 0, none⟩)] 44))
  have HQ9 := Lib.hid (Whole.new w9 44 #[.pointer (some ⟨g, 0, none⟩)] rfl)
  have HRd := Lib.hid (hRd.below ((Below.refl w9.heap.size w9).alloc (Nat.le_refl _) (.cells #[.pointer (some ⟨g, 0, none⟩)] 44)))
  have HB := Lib.hid (HB.out.alloc HB.out.size (.cells #[.pointer (some ⟨g, 0, none⟩)] 44))
  have hgl := hRd.1.lt
  obtain ⟨q, hq⟩ : ∃ q, w9.heap.size = q := ⟨_, rfl⟩
  have hq5 : w5.heap.size ≤ q := by omega
  rw [hq] at HQ9 hgl
  clear hb9 hRd hb9s
  have hmf : ∀ (fn : Fn) (first cap : Array Value) (w : World), (Instr.makeFunc fn first cap).run Tryd.prog w = .ok (.func fn first cap) w := fun _ _ _ _ => rfl
  go_wp2_with fail
  obtain ⟨w10, hw10⟩ : ∃ w10, w9.alloc (.cells #[.pointer (some ⟨g, 0, none⟩)] 44) = w10 := ⟨_, rfl⟩
  have hs10 : w10.heap.size = q + 1 := by rw [← hw10, ← hq]; simp
  rw [hw10] at HY HX HRd HB HQ9 ⊢
  try rw [hq]
  clear hw10 hq
  have hy10 := HY.out.lt
  have hx10 := HX.out.lt
  refine (tryH_throw 16 #[.pointer (some ⟨q, 0, none⟩)] K2 w10 (RdR g A2 M cp L K2) (fun _ => by kernel_rfl) (keep_rdr _ g A2 M cp L K2 (by omega))
    (fun w' hb => lclo_throw g q A2 M cp L K2 v w' HK2.out (HQ9.out.below' hb) (by have := hb.size; omega) (fun w'' hb2 => HRD.out g A2 cp w'' (HE.out.below (HB.out.trans ((hb.trans (hb2.mono hb.size)).mono HB.out.size))) ((HRd.out.below hb).below hb2) hc1 hc2 (by omega)))).mono ?_
  rintro e w11 ⟨rfl, u1, u2, hb4, hMv, hb5⟩
  have hb4s := hb4.size
  have HY := Lib.hid ((hMv.1.whole (HY.out.below' hb4) (by omega)).below hb5 (by omega))
  have HX := Lib.hid ((hMv.1.whole (HX.out.below' hb4) (by omega)).below hb5 (by omega))
  have HB := Lib.hid ((hMv.1.below (HB.out.trans (hb4.mono HB.out.size)) (by omega) (by have := HB.out.size; omega)).trans (hb5.mono HB.out.size))
  clear hMv hb4 hb5
  obtain ⟨w12, hw12⟩ : ∃ w12, w11.alloc (.cells #[.string ⟨#[]⟩, .int .i64 0, .int .i64 0, .int .i64 0, .int .i64 0, .int .i64 0, .int .i64 0, .int .i64 0, .int .u32 0, .int .i64 0, .int .i64 0, .bool false, .bool false, .int .i64 0] 28) = w12 := ⟨_, rfl⟩
  have HZ : Hid (Whole w12 w11.heap.size 28 #[.string ⟨#[]⟩, .int .i64 0, .int .i64 0, .int .i64 0, .int .i64 0, .int .i64 0, .int .i64 0, .int .i64 0, .int .u32 0, .int .i64 0, .int .i64 0, .bool false, .bool false, .int .i64 0]) := Lib.hid (hw12 ▸ Whole.new w11 28 _ rfl)
  have HY : Hid (Whole w12 w2.heap.size 28 #[.string ⟨#[]⟩, .int .i64 0, .int .i64 0, .int .i64 0, .int .i64 0, .int .i64 0, .int .i64 0, .int .i64 0, .int .u32 0, .int .i64 0, .int .i64 0, .bool false, .bool false, .int .i64 0]) := Lib.hid (hw12 ▸ HY.out.alloc _)
  have HX : Hid (Whole w12 w4.heap.size 30 #[.string ⟨#[]⟩, .int .i64 0, .int .i64 0, .int .i64 0, .int .i64 0, .int .i64 0, .int .i64 0, .int .i64 0, .int .u32 0, .int .i64 0, .int .i64 0, .bool false, .bool false]) := Lib.hid (hw12 ▸ HX.out.alloc _)
  have HB : Hid (Below W.heap.size W w12) := Lib.hid (hw12 ▸ HB.out.alloc HB.out.size _)
  have HW12 := Lib.hid hw12
  clear hw12
  have y0 := HY.out.cell 0
  have y1 := HY.out.cell 1
  have y2 := HY.out.cell 2
  have y3 := HY.out.cell 3
  have y4 := HY.out.cell 4
  have y5 := HY.out.cell 5
  have y6 := HY.out.cell 6
  have y7 := HY.out.cell 7
  have y8 := HY.out.cell 8
  have y9 := HY.out.cell 9
  have y10 := HY.out.cell 10
  have y11 := HY.out.cell 11
  have y12 := HY.out.cell 12
  have y13 := HY.out.cell 13
  simp at y0 y1 y2 y3 y4 y5 y6 y7 y8 y9 y10 y11 y12 y13
  simp only [← HW12.out] at y0 y1 y2 y3 y4 y5 y6 y7 y8 y9 y10 y11 y12 y13
  go_wp2
  go_ret
  exact ⟨rfl, by have := HB.out; rw [← HW12.out] at this; exact this⟩
set_option maxHeartbeats 8000000 in
set_option maxRecDepth 100000 in
theorem reads_some (A : Option Addr) (n cA at' M L : Nat) (xs : List UInt8) (s : ByteArray) (y mo d h mi se : Int) (me c p z : Nat) (wd lt : Bool) (pl : Nat) (W : World) (hE : Env W) (hn : n ≤ 1000) (hat : at' ≤ n) (hM : n - at' = M) (hnc : n ≤ cA) (hca : ¬ cA = at') (hL0 : L ≠ 0) (hL : L ≤ 400)
    (HP : Hid (∀ w, Below W.heap.size W w → Calls Tryd.prog 12 #[.slice A n cA, .int .i64 (at' : Nat)] w fun e w' => e = .returned (.tuple #[.agg #[.string s, .int .i64 y, .int .i64 mo, .int .i64 d, .int .i64 h, .int .i64 mi, .int .i64 se, .int .i64 (me : Nat), .int .u32 (c : Nat), .int .i64 (p : Nat), .int .i64 (z : Nat), .bool wd, .bool lt, .int .i64 (pl : Nat)], .int .i64 ((at' + L : Nat) : Int), .int .i64 0]) ∧ Below w.heap.size w w'))
    (HQ : Hid (∀ w, Below W.heap.size W w → Calls Tryd.prog 13 #[.slice (Option.map (fun x => x.add at') A) M (cA - at')] w (RPost w (.agg #[.string s, .int .i64 y, .int .i64 mo, .int .i64 d, .int .i64 h, .int .i64 mi, .int .i64 se, .int .i64 (me : Nat), .int .u32 (c : Nat), .int .i64 (p : Nat), .int .i64 (z : Nat), .bool wd, .bool lt]) pl L)))
    (HS : Hid (∀ w, Below W.heap.size W w → Bs w (fun b => b < W.heap.size) (Option.map (fun x => x.add at') A) M xs))
    (HRD : Hid (∀ g A2 cp w', Env w' → Rdr w' g A2 M cp xs 0 → M ≤ cp → cp ≤ 9223372036854775807 → 3 ≤ g → Calls Tryd.prog 17 #[.pointer (some ⟨g, 0, none⟩)] w' (RdH w' g A2 M cp L 0 (.agg #[.string s, .int .i64 y, .int .i64 mo, .int .i64 d, .int .i64 h, .int .i64 mi, .int .i64 se, .int .i64 (me : Nat), .int .u32 (c : Nat), .int .i64 (p : Nat), .int .i64 (z : Nat), .bool wd, .bool lt, .int .i64 (pl : Nat)]))))
    : Calls Tryd.prog 4 #[.slice A n cA, .int .i64 (at' : Nat)] W fun e w' => e = .returned (.bool true) ∧ Below W.heap.size W w' := by
  have d1 : decide (1000 < n) = false := decide_eq_false (by omega)
  have d1' : decide ((1000 : Int) < (n : Int)) = false := decide_eq_false (by omega)
  have g2 : 2 < W.heap.size := World.block_lt_of_cell? W _ hE.2.choose_spec
  have HE := Lib.hid hE
  have d2 : decide ((at' : Int) < 0) = false := decide_eq_false (by omega)
  have d3 : decide (n < at') = false := decide_eq_false (by omega)
  have d3' : decide ((n : Int) < (at' : Int)) = false := decide_eq_false (by omega)
  have i1 : (at' : Int) ≤ (n : Int) := by omega
  have i2 : (n : Int) ≤ (cA : Int) := by omega
  have hM3 : M ≤ 1000 := by omega
  have l1 : (L == 0) = false := by rw [beq_eq_false_iff_ne]; omega
  have l1' : ((L : Int) == 0) = false := by rw [beq_eq_false_iff_ne]; omega
  have e1 : IntKind.i64.wrap ((at' : Int) + (L : Int)) = (at' : Int) + (L : Int) := IntWalk.i64_in _ (by omega)
  have Q1 := eq_en2 s y mo d h mi se (me : Nat) (c : Nat) (p : Nat) (z : Nat) wd lt (pl : Nat)
  have Q2 := eq_hd30 s y mo d h mi se (me : Nat) (c : Nat) (p : Nat) (z : Nat) wd lt
  clear hn hE
  go_enter Tryd.func4, Tryd.ntmps4
  go_wp2_with fail
  refine (cawake_any W HE.out).mono ?_
  rintro e w1 ⟨rfl, hb1⟩
  have HB := Lib.hid hb1
  clear hb1
  go_wp2_with fail
  refine (HP.out _ HB.out).mono ?_
  rintro e w2 ⟨rfl, hb2⟩
  have HB := Lib.hid (HB.out.trans (hb2.mono HB.out.size))
  have HBW := HB
  clear hb2
  obtain ⟨w3, hw3⟩ : ∃ w3, w2.alloc (.cells #[.string s, .int .i64 y, .int .i64 mo, .int .i64 d, .int .i64 h, .int .i64 mi, .int .i64 se, .int .i64 (me : Nat), .int .u32 (c : Nat), .int .i64 (p : Nat), .int .i64 (z : Nat), .bool wd, .bool lt, .int .i64 (pl : Nat)] 28) = w3 := ⟨_, rfl⟩
  have HY : Hid (Whole w3 w2.heap.size 28 #[.string s, .int .i64 y, .int .i64 mo, .int .i64 d, .int .i64 h, .int .i64 mi, .int .i64 se, .int .i64 (me : Nat), .int .u32 (c : Nat), .int .i64 (p : Nat), .int .i64 (z : Nat), .bool wd, .bool lt, .int .i64 (pl : Nat)]) := Lib.hid (hw3 ▸ Whole.new w2 28 _ rfl)
  have HB : Hid (Below W.heap.size W w3) := Lib.hid (hw3 ▸ HB.out.alloc HB.out.size _)
  have HW3 := Lib.hid hw3
  have hsy : W.heap.size ≤ w2.heap.size := by
    exact HBW.out.size
  clear hw3
  go_wp2_with fail
  rw [HW3.out]
  refine (HQ.out _ HB.out).mono ?_
  rintro e w4 ⟨rfl, hb4⟩
  have HB := Lib.hid (HB.out.trans (hb4.mono HB.out.size))
  have HY := Lib.hid (HY.out.below' hb4)
  clear hb4
  have hy4 := HY.out.lt
  obtain ⟨w5, hw5⟩ : ∃ w5, w4.alloc (.cells #[.string s, .int .i64 y, .int .i64 mo, .int .i64 d, .int .i64 h, .int .i64 mi, .int .i64 se, .int .i64 (me : Nat), .int .u32 (c : Nat), .int .i64 (p : Nat), .int .i64 (z : Nat), .bool wd, .bool lt] 30) = w5 := ⟨_, rfl⟩
  have HX : Hid (Whole w5 w4.heap.size 30 #[.string s, .int .i64 y, .int .i64 mo, .int .i64 d, .int .i64 h, .int .i64 mi, .int .i64 se, .int .i64 (me : Nat), .int .u32 (c : Nat), .int .i64 (p : Nat), .int .i64 (z : Nat), .bool wd, .bool lt]) := Lib.hid (hw5 ▸ Whole.new w4 30 _ rfl)
  have HY : Hid (Whole w5 w2.heap.size 28 #[.string s, .int .i64 y, .int .i64 mo, .int .i64 d, .int .i64 h, .int .i64 mi, .int .i64 se, .int .i64 (me : Nat), .int .u32 (c : Nat), .int .i64 (p : Nat), .int .i64 (z : Nat), .bool wd, .bool lt, .int .i64 (pl : Nat)]) := Lib.hid (hw5 ▸ HY.out.alloc _)
  have HB : Hid (Below W.heap.size W w5) := Lib.hid (hw5 ▸ HB.out.alloc HB.out.size _)
  have HW5 := Lib.hid hw5
  have hsz5 : w5.heap.size = w4.heap.size + 1 := by rw [← hw5]; simp
  clear hw5
  go_wp2_with fail
  rw [HW5.out]
  refine (over_any (Option.map (fun x => x.add at') A) M (cA - at') xs _ w5 (HS.out _ HB.out) (by omega)).mono ?_
  rintro e w9 ⟨A2, cp, g, rfl, hg0, hRd, hc1, hc2, hb9⟩
  have hb9s := hb9.size
  have HB := Lib.hid (HB.out.trans (hb9.mono HB.out.size))
  have HY := Lib.hid ((HY.out.below' hb9).alloc (.cells #[.pointer (some ⟨g, 0, none⟩)] 44))
  have HX := Lib.hid ((HX.out.below' hb9).alloc (.cells #[.pointer (some ⟨g, 0, none⟩)] 44))
  have HQ9 := Lib.hid (Whole.new w9 44 #[.pointer (some ⟨g, 0, none⟩)] rfl)
  have HRd := Lib.hid (hRd.below ((Below.refl w9.heap.size w9).alloc (Nat.le_refl _) (.cells #[.pointer (some ⟨g, 0, none⟩)] 44)))
  have HB := Lib.hid (HB.out.alloc HB.out.size (.cells #[.pointer (some ⟨g, 0, none⟩)] 44))
  have hgl := hRd.1.lt
  obtain ⟨q, hq⟩ : ∃ q, w9.heap.size = q := ⟨_, rfl⟩
  have hq5 : w5.heap.size ≤ q := by omega
  rw [hq] at HQ9 hgl
  clear hb9 hRd hb9s
  have hmf : ∀ (fn : Fn) (first cap : Array Value) (w : World), (Instr.makeFunc fn first cap).run Tryd.prog w = .ok (.func fn first cap) w := fun _ _ _ _ => rfl
  go_wp2_with fail
  obtain ⟨w10, hw10⟩ : ∃ w10, w9.alloc (.cells #[.pointer (some ⟨g, 0, none⟩)] 44) = w10 := ⟨_, rfl⟩
  have hs10 : w10.heap.size = q + 1 := by rw [← hw10, ← hq]; simp
  rw [hw10] at HY HX HRd HB HQ9 ⊢
  try rw [hq]
  clear hw10 hq
  have hy10 := HY.out.lt
  have hx10 := HX.out.lt
  refine (tryH_ret 16 #[.pointer (some ⟨q, 0, none⟩)] s y mo d h mi se (me : Nat) (c : Nat) (p : Nat) (z : Nat) wd lt (pl : Nat) w10 (RdR g A2 M cp L 0) (fun _ => by kernel_rfl) (keep_rdr _ g A2 M cp L 0 (by omega))
    (fun w' hb => lclo_ret g q A2 M cp L s y mo d h mi se (me : Nat) (c : Nat) (p : Nat) (z : Nat) wd lt (pl : Nat) w' (HQ9.out.below' hb) (by have := hb.size; omega) (fun w'' hb2 => HRD.out g A2 cp w'' (HE.out.below (HB.out.trans ((hb.trans (hb2.mono hb.size)).mono HB.out.size))) ((HRd.out.below hb).below hb2) hc1 hc2 (by omega)))).mono ?_
  rintro e w11 ⟨rfl, u1, u2, hb4, hMv, hb5⟩
  have hb4s := hb4.size
  have HY := Lib.hid ((hMv.1.whole (HY.out.below' hb4) (by omega)).below hb5 (by omega))
  have HX := Lib.hid ((hMv.1.whole (HX.out.below' hb4) (by omega)).below hb5 (by omega))
  have HQ9 := Lib.hid ((hMv.1.whole (HQ9.out.below' hb4) (by omega)).below hb5 (by omega))
  have HG := Lib.hid ((hMv.2 rfl).below hb5 (by omega))
  have HB := Lib.hid ((hMv.1.below (HB.out.trans (hb4.mono HB.out.size)) (by omega) (by have := HB.out.size; omega)).trans (hb5.mono HB.out.size))
  clear hMv hb4 hb5
  obtain ⟨w12, hw12⟩ : ∃ w12, w11.alloc (.cells #[.string s, .int .i64 y, .int .i64 mo, .int .i64 d, .int .i64 h, .int .i64 mi, .int .i64 se, .int .i64 (me : Nat), .int .u32 (c : Nat), .int .i64 (p : Nat), .int .i64 (z : Nat), .bool wd, .bool lt, .int .i64 (pl : Nat)] 28) = w12 := ⟨_, rfl⟩
  have HZ : Hid (Whole w12 w11.heap.size 28 #[.string s, .int .i64 y, .int .i64 mo, .int .i64 d, .int .i64 h, .int .i64 mi, .int .i64 se, .int .i64 (me : Nat), .int .u32 (c : Nat), .int .i64 (p : Nat), .int .i64 (z : Nat), .bool wd, .bool lt, .int .i64 (pl : Nat)]) := Lib.hid (hw12 ▸ Whole.new w11 28 _ rfl)
  have HY : Hid (Whole w12 w2.heap.size 28 #[.string s, .int .i64 y, .int .i64 mo, .int .i64 d, .int .i64 h, .int .i64 mi, .int .i64 se, .int .i64 (me : Nat), .int .u32 (c : Nat), .int .i64 (p : Nat), .int .i64 (z : Nat), .bool wd, .bool lt, .int .i64 (pl : Nat)]) := Lib.hid (hw12 ▸ HY.out.alloc _)
  have HX : Hid (Whole w12 w4.heap.size 30 #[.string s, .int .i64 y, .int .i64 mo, .int .i64 d, .int .i64 h, .int .i64 mi, .int .i64 se, .int .i64 (me : Nat), .int .u32 (c : Nat), .int .i64 (p : Nat), .int .i64 (z : Nat), .bool wd, .bool lt]) := Lib.hid (hw12 ▸ HX.out.alloc _)
  have HB : Hid (Below W.heap.size W w12) := Lib.hid (hw12 ▸ HB.out.alloc HB.out.size _)
  have HQ9 : Hid (Whole w12 q 44 #[.pointer (some ⟨g, 0, none⟩)]) := Lib.hid (hw12 ▸ HQ9.out.alloc _)
  have HG : Hid (Whole w12 g 70 #[.slice A2 M cp, .int .i64 (L : Nat)]) := Lib.hid (hw12 ▸ HG.out.alloc _)
  have HW12 := Lib.hid hw12
  clear hw12
  have y0 := HY.out.cell 0
  have y1 := HY.out.cell 1
  have y2 := HY.out.cell 2
  have y3 := HY.out.cell 3
  have y4 := HY.out.cell 4
  have y5 := HY.out.cell 5
  have y6 := HY.out.cell 6
  have y7 := HY.out.cell 7
  have y8 := HY.out.cell 8
  have y9 := HY.out.cell 9
  have y10 := HY.out.cell 10
  have y11 := HY.out.cell 11
  have y12 := HY.out.cell 12
  have y13 := HY.out.cell 13
  simp at y0 y1 y2 y3 y4 y5 y6 y7 y8 y9 y10 y11 y12 y13
  have x0 := HX.out.cell 0
  have x1 := HX.out.cell 1
  have x2 := HX.out.cell 2
  have x3 := HX.out.cell 3
  have x4 := HX.out.cell 4
  have x5 := HX.out.cell 5
  have x6 := HX.out.cell 6
  have x7 := HX.out.cell 7
  have x8 := HX.out.cell 8
  have x9 := HX.out.cell 9
  have x10 := HX.out.cell 10
  have x11 := HX.out.cell 11
  have x12 := HX.out.cell 12
  simp at x0 x1 x2 x3 x4 x5 x6 x7 x8 x9 x10 x11 x12
  have u0 := HZ.out.cell 0
  have u1 := HZ.out.cell 1
  have u2 := HZ.out.cell 2
  have u3 := HZ.out.cell 3
  have u4 := HZ.out.cell 4
  have u5 := HZ.out.cell 5
  have u6 := HZ.out.cell 6
  have u7 := HZ.out.cell 7
  have u8 := HZ.out.cell 8
  have u9 := HZ.out.cell 9
  have u10 := HZ.out.cell 10
  have u11 := HZ.out.cell 11
  have u12 := HZ.out.cell 12
  have u13 := HZ.out.cell 13
  simp at u0 u1 u2 u3 u4 u5 u6 u7 u8 u9 u10 u11 u12 u13
  have qq := HQ9.out.cell 0
  simp at qq
  have ly := HY.out.lt
  have lx := HX.out.lt
  have lu := HZ.out.lt
  have lq := HQ9.out.lt
  go_wp2_with fail
  rw [HW12.out]
  refine wp_region_free2 (mk := fun j => [12, 33].any (Nat.beq j)) (by kernel_rfl) (by kernel_rfl) (by kernel_rfl) ?_
  iterate 12 (first | ((with_reducible refine vfree_skip rfl ?_ ?_); (focus rfl); intro K hK; go_big_quiet_op; go_big_quiet_on) | ((with_reducible refine vfree_hard ?_ ?_ ?_); (focus rfl); (focus rfl); intro K hK; go_big_quiet_op; go_big_quiet_on))
  refine vfree_one (.agg #[.string s, .int .i64 y, .int .i64 mo, .int .i64 d, .int .i64 h, .int .i64 mi, .int .i64 se, .int .i64 (me : Nat), .int .u32 (c : Nat), .int .i64 (p : Nat), .int .i64 (z : Nat), .bool wd, .bool lt]) rfl rfl rfl (fun w' hw' => ?_) ?_
  · have hb := hw'.1.below
    go_simp
    exact (ref_any s y mo d h mi se (me : Nat) c (p : Nat) (z : Nat) wd lt w').mono fun _ _ ⟨h1, h2⟩ => ⟨h1, h2⟩
  intro K hK
  go_big_quiet_op
  go_big_quiet_on
  iterate 2 (first | ((with_reducible refine vfree_skip rfl ?_ ?_); (focus rfl); intro K hK; go_big_quiet_op; go_big_quiet_on) | ((with_reducible refine vfree_hard ?_ ?_ ?_); (focus rfl); (focus rfl); intro K hK; go_big_quiet_op; go_big_quiet_on))
  iterate 18 (first | ((with_reducible refine vfree_skip rfl ?_ ?_); (focus rfl); intro K hK; go_big_quiet_op; go_big_quiet_on) | ((with_reducible refine vfree_hard ?_ ?_ ?_); (focus rfl); (focus rfl); intro K hK; go_big_quiet_op; go_big_quiet_on))
  refine vfree_one (.int .i64 (L : Nat)) rfl rfl rfl (fun w' hw' => ?_) ?_
  · have hb := hw'.1.below
    go_simp
    exact Calls.one_same (at_whole g A2 M cp L w' (HG.out.below' hb))
  intro K hK
  go_big_quiet_op
  go_big_quiet_on
  iterate 4 (first | ((with_reducible refine vfree_skip rfl ?_ ?_); (focus rfl); intro K hK; go_big_quiet_op; go_big_quiet_on) | ((with_reducible refine vfree_hard ?_ ?_ ?_); (focus rfl); (focus rfl); intro K hK; go_big_quiet_op; go_big_quiet_on))
  refine vfree_nil ?_
  intro w13 hb13 hk13
  have HB := Lib.hid (HB.out.trans (hb13.mono HB.out.size))
  clear hk13 hb13
  go_wp2
  go_ret
  exact ⟨rfl, HB.out⟩
end Go.Proofs.YtdmglpnieiiigaaDoor
