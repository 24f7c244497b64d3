/- The law of writing. -/
import Derived.Test.YtdmglpnieiiigaaDoorK6
import Derived.Test.YtdmglpnieiiigaaDoorT2
namespace Go.Proofs.YtdmglpnieiiigaaDoor
open Go.RowKit

set_option maxRecDepth 100000 in
set_option maxHeartbeats 4000000 in
theorem cwrites_long (s : ByteArray) (y mo d h mi se me : Int) (c : Nat) (p z : Int) (wd lt : Bool) (pl : Int) (w : World) (hE : Env w) (hs : 1000 < s.size) : Calls Tryd.prog 3 #[.agg #[.string s, .int .i64 y, .int .i64 mo, .int .i64 d, .int .i64 h, .int .i64 mi, .int .i64 se, .int .i64 me, .int .u32 (c : Nat), .int .i64 p, .int .i64 z, .bool wd, .bool lt, .int .i64 pl]] w fun e w' => e = .returned (.bool true) ∧ Below w.heap.size w w' := by
  have d1 : decide ((1000 : Int) < (s.size : Int)) = true := decide_eq_true (by omega)
  have d1' : decide (1000 < s.size) = true := decide_eq_true (by omega)
  have HE := Lib.hid hE
  clear hE
  go_enter Tryd.func3, Tryd.ntmps3
  go_wp2_with fail
  obtain ⟨w0, hw0⟩ : ∃ w0, w.alloc (.cells #[.string s, .int .i64 y, .int .i64 mo, .int .i64 d, .int .i64 h, .int .i64 mi, .int .i64 se, .int .i64 me, .int .u32 (c : Nat), .int .i64 p, .int .i64 z, .bool wd, .bool lt, .int .i64 pl] 28) = w0 := ⟨_, rfl⟩
  rw [hw0]
  have HW0 : Hid (Below w.heap.size w w0) := Lib.hid (hw0 ▸ (Below.refl _ _).alloc (Nat.le_refl _) _)
  have HR : Hid (Whole w0 w.heap.size 28 #[.string s, .int .i64 y, .int .i64 mo, .int .i64 d, .int .i64 h, .int .i64 mi, .int .i64 se, .int .i64 me, .int .u32 (c : Nat), .int .i64 p, .int .i64 z, .bool wd, .bool lt, .int .i64 pl]) := Lib.hid (hw0 ▸ Whole.new w 28 _ rfl)
  clear hw0
  refine (cawake_any w0 (HE.out.below HW0.out)).mono ?_
  rintro e w1 ⟨rfl, hb1⟩
  have HB1 := Lib.hid (HW0.out.trans (hb1.mono HW0.out.size))
  have HR := Lib.hid (HR.out.below' hb1)
  clear hb1 HW0
  have r0 := HR.out.cell 0
  simp at r0
  go_wp2
  go_ret
  exact ⟨rfl, HB1.out⟩
set_option maxRecDepth 100000 in
set_option maxHeartbeats 8000000 in
theorem cwrites_bad (s : ByteArray) (y mo d h mi se me : Int) (c : Nat) (p z : Int) (wd lt : Bool) (pl : Int) (w : World) (hE : Env w) (hs : s.size ≤ 1000) (hk : (codeC s (rightB y mo d h mi se) me p z pl == 0) = false) : Calls Tryd.prog 3 #[.agg #[.string s, .int .i64 y, .int .i64 mo, .int .i64 d, .int .i64 h, .int .i64 mi, .int .i64 se, .int .i64 me, .int .u32 (c : Nat), .int .i64 p, .int .i64 z, .bool wd, .bool lt, .int .i64 pl]] w fun e w' => e = .returned (.bool true) ∧ Below w.heap.size w w' := by
  have XREF := Lib.hid fun w => ref_any s y mo d h mi se me c p z wd lt w
  have XHC := fun w hE => ccheck_any s y mo d h mi se me c p z wd lt pl w hE
  have XRC := fun w => rccheck_any s y mo d h mi se me c p z wd lt pl w
  have XEN := fun w hE => cencode_bad s y mo d h mi se me c p z wd lt pl w hE hk
  obtain ⟨K, hK⟩ : ∃ K, codeC s (rightB y mo d h mi se) me p z pl = K := ⟨_, rfl⟩
  rw [hK] at XHC XRC XEN hk
  have d1 : decide ((1000 : Int) < (s.size : Int)) = false := decide_eq_false (by omega)
  have d1' : decide (1000 < s.size) = false := decide_eq_false (by omega)
  have XHC := Lib.hid XHC
  have XRC := Lib.hid XRC
  have XEN := Lib.hid XEN
  have HE := Lib.hid hE
  clear hE hK
  go_enter Tryd.func3, Tryd.ntmps3
  go_wp2_with fail
  obtain ⟨w0, hw0⟩ : ∃ w0, w.alloc (.cells #[.string s, .int .i64 y, .int .i64 mo, .int .i64 d, .int .i64 h, .int .i64 mi, .int .i64 se, .int .i64 me, .int .u32 (c : Nat), .int .i64 p, .int .i64 z, .bool wd, .bool lt, .int .i64 pl] 28) = w0 := ⟨_, rfl⟩
  rw [hw0]
  have HW0 : Hid (Below w.heap.size w w0) := Lib.hid (hw0 ▸ (Below.refl _ _).alloc (Nat.le_refl _) _)
  have HR : Hid (Whole w0 w.heap.size 28 #[.string s, .int .i64 y, .int .i64 mo, .int .i64 d, .int .i64 h, .int .i64 mi, .int .i64 se, .int .i64 me, .int .u32 (c : Nat), .int .i64 p, .int .i64 z, .bool wd, .bool lt, .int .i64 pl]) := Lib.hid (hw0 ▸ Whole.new w 28 _ rfl)
  clear hw0
  refine (cawake_any w0 (HE.out.below HW0.out)).mono ?_
  rintro e w1 ⟨rfl, hb1⟩
  have HB1 := Lib.hid (HW0.out.trans (hb1.mono HW0.out.size))
  have HR := Lib.hid (HR.out.below' hb1)
  clear hb1 HW0
  have r0 := HR.out.cell 0
  have r1 := HR.out.cell 1
  have r2 := HR.out.cell 2
  have r3 := HR.out.cell 3
  have r4 := HR.out.cell 4
  have r5 := HR.out.cell 5
  have r6 := HR.out.cell 6
  have r7 := HR.out.cell 7
  have r8 := HR.out.cell 8
  have r9 := HR.out.cell 9
  have r10 := HR.out.cell 10
  have r11 := HR.out.cell 11
  have r12 := HR.out.cell 12
  have r13 := HR.out.cell 13
  simp at r0 r1 r2 r3 r4 r5 r6 r7 r8 r9 r10 r11 r12 r13
  go_wp2_with fail
  refine (XREF.out w1).mono ?_
  rintro e w2 ⟨rfl, hb2⟩
  have HB2 := Lib.hid (HB1.out.trans (hb2.mono HB1.out.size))
  have HR := Lib.hid (HR.out.below' hb2)
  clear hb2 HB1 r0 r1 r2 r3 r4 r5 r6 r7 r8 r9 r10 r11 r12 r13
  have r0 := HR.out.cell 0
  have r1 := HR.out.cell 1
  have r2 := HR.out.cell 2
  have r3 := HR.out.cell 3
  have r4 := HR.out.cell 4
  have r5 := HR.out.cell 5
  have r6 := HR.out.cell 6
  have r7 := HR.out.cell 7
  have r8 := HR.out.cell 8
  have r9 := HR.out.cell 9
  have r10 := HR.out.cell 10
  have r11 := HR.out.cell 11
  have r12 := HR.out.cell 12
  have r13 := HR.out.cell 13
  simp at r0 r1 r2 r3 r4 r5 r6 r7 r8 r9 r10 r11 r12 r13
  have hl2 := HR.out.lt
  go_wp2_with fail
  obtain ⟨w3, hw3⟩ : ∃ x, w2.alloc (.cells #[.string s, .int .i64 y, .int .i64 mo, .int .i64 d, .int .i64 h, .int .i64 mi, .int .i64 se, .int .i64 me, .int .u32 (c : Nat), .int .i64 p, .int .i64 z, .bool wd, .bool lt] 30) = x := ⟨_, rfl⟩
  rw [hw3]
  have HB3 : Hid (Below w.heap.size w w3) := Lib.hid (hw3 ▸ HB2.out.alloc HB2.out.size _)
  have HR : Hid (Whole w3 w.heap.size 28 #[.string s, .int .i64 y, .int .i64 mo, .int .i64 d, .int .i64 h, .int .i64 mi, .int .i64 se, .int .i64 me, .int .u32 (c : Nat), .int .i64 p, .int .i64 z, .bool wd, .bool lt, .int .i64 pl]) := Lib.hid (hw3 ▸ HR.out.alloc _)
  have HG : Hid (Whole w3 w2.heap.size 30 #[.string s, .int .i64 y, .int .i64 mo, .int .i64 d, .int .i64 h, .int .i64 mi, .int .i64 se, .int .i64 me, .int .u32 (c : Nat), .int .i64 p, .int .i64 z, .bool wd, .bool lt]) := Lib.hid (hw3 ▸ Whole.new w2 30 _ rfl)
  obtain ⟨g, hg⟩ : ∃ g, w2.heap.size = g := ⟨_, rfl⟩
  rw [hg] at HG ⊢
  clear hw3 hg HB2 hl2 r0 r1 r2 r3 r4 r5 r6 r7 r8 r9 r10 r11 r12 r13
  refine (XRC.out w3).mono ?_
  rintro e w4 ⟨rfl, hb4⟩
  have HB4 := Lib.hid (HB3.out.trans (hb4.mono HB3.out.size))
  have HR := Lib.hid (HR.out.below' hb4)
  have HG := Lib.hid (HG.out.below' hb4)
  clear hb4 HB3
  have r0 := HR.out.cell 0
  have r1 := HR.out.cell 1
  have r2 := HR.out.cell 2
  have r3 := HR.out.cell 3
  have r4 := HR.out.cell 4
  have r5 := HR.out.cell 5
  have r6 := HR.out.cell 6
  have r7 := HR.out.cell 7
  have r8 := HR.out.cell 8
  have r9 := HR.out.cell 9
  have r10 := HR.out.cell 10
  have r11 := HR.out.cell 11
  have r12 := HR.out.cell 12
  have r13 := HR.out.cell 13
  simp at r0 r1 r2 r3 r4 r5 r6 r7 r8 r9 r10 r11 r12 r13
  go_wp2_with fail
  refine (XEN.out w4 (HE.out.below HB4.out)).mono ?_
  rintro e w5 ⟨rfl, hb5⟩
  have HB5 := Lib.hid (HB4.out.trans (hb5.mono HB4.out.size))
  have HR := Lib.hid (HR.out.below' hb5)
  have HG := Lib.hid (HG.out.below' hb5)
  clear hb5 HB4 r0 r1 r2 r3 r4 r5 r6 r7 r8 r9 r10 r11 r12 r13
  have r0 := HR.out.cell 0
  have r1 := HR.out.cell 1
  have r2 := HR.out.cell 2
  have r3 := HR.out.cell 3
  have r4 := HR.out.cell 4
  have r5 := HR.out.cell 5
  have r6 := HR.out.cell 6
  have r7 := HR.out.cell 7
  have r8 := HR.out.cell 8
  have r9 := HR.out.cell 9
  have r10 := HR.out.cell 10
  have r11 := HR.out.cell 11
  have r12 := HR.out.cell 12
  have r13 := HR.out.cell 13
  simp at r0 r1 r2 r3 r4 r5 r6 r7 r8 r9 r10 r11 r12 r13
  go_wp2_with fail
  refine (XHC.out w5 (HE.out.below HB5.out)).mono ?_
  rintro e w6 ⟨rfl, hb6⟩
  have HB6 := Lib.hid (HB5.out.trans (hb6.mono HB5.out.size))
  have HR := Lib.hid (HR.out.below' hb6)
  have HG := Lib.hid (HG.out.below' hb6)
  clear hb6 HB5 r0 r1 r2 r3 r4 r5 r6 r7 r8 r9 r10 r11 r12 r13
  go_wp2
  all_goals first
    | (rename_i hx; exfalso; revert hx; simp [hk]; done)
    | (go_ret; exact ⟨by first | rfl | simp, HB6.out⟩)
set_option maxRecDepth 100000 in
set_option maxHeartbeats 8000000 in
theorem cwrites_good (s : ByteArray) (y mo d h mi se : Int) (me c p z : Nat) (wd lt : Bool) (pl : Nat) (w : World) (hE : Env w) (hs : s.size ≤ 1000) (hc : c < 4294967296) (hk : codeC s (rightB y mo d h mi se) me p z pl = 0) : Calls Tryd.prog 3 #[.agg #[.string s, .int .i64 y, .int .i64 mo, .int .i64 d, .int .i64 h, .int .i64 mi, .int .i64 se, .int .i64 (me : Nat), .int .u32 (c : Nat), .int .i64 (p : Nat), .int .i64 (z : Nat), .bool wd, .bool lt, .int .i64 (pl : Nat)]] w fun e w' => e = .returned (.bool true) ∧ Below w.heap.size w w' := by
  have XREF := Lib.hid fun w => ref_any s y mo d h mi se me c p z wd lt w
  have XHC := fun w hE => ccheck_any s y mo d h mi se me c p z wd lt pl w hE
  have XRC := fun w => rccheck_any s y mo d h mi se me c p z wd lt pl w
  obtain ⟨bs, n, e1, e2, _⟩ := enc_both s y mo d h mi se me c p z wd lt pl hc hk
  unfold EncQ at e1
  unfold RetB at e2
  rw [hk] at XHC XRC
  have d1 : decide ((1000 : Int) < (s.size : Int)) = false := decide_eq_false (by omega)
  have d1' : decide (1000 < s.size) = false := decide_eq_false (by omega)
  have XEN := Lib.hid e1
  have XRE := Lib.hid e2
  have XHC := Lib.hid XHC
  have XRC := Lib.hid XRC
  have HE := Lib.hid hE
  clear hE e1 e2 hk
  go_enter Tryd.func3, Tryd.ntmps3
  go_wp2_with fail
  obtain ⟨w0, hw0⟩ : ∃ w0, w.alloc (.cells #[.string s, .int .i64 y, .int .i64 mo, .int .i64 d, .int .i64 h, .int .i64 mi, .int .i64 se, .int .i64 (me : Nat), .int .u32 (c : Nat), .int .i64 (p : Nat), .int .i64 (z : Nat), .bool wd, .bool lt, .int .i64 (pl : Nat)] 28) = w0 := ⟨_, rfl⟩
  rw [hw0]
  have HW0 : Hid (Below w.heap.size w w0) := Lib.hid (hw0 ▸ (Below.refl _ _).alloc (Nat.le_refl _) _)
  have HR : Hid (Whole w0 w.heap.size 28 #[.string s, .int .i64 y, .int .i64 mo, .int .i64 d, .int .i64 h, .int .i64 mi, .int .i64 se, .int .i64 (me : Nat), .int .u32 (c : Nat), .int .i64 (p : Nat), .int .i64 (z : Nat), .bool wd, .bool lt, .int .i64 (pl : Nat)]) := Lib.hid (hw0 ▸ Whole.new w 28 _ rfl)
  clear hw0
  refine (cawake_any w0 (HE.out.below HW0.out)).mono ?_
  rintro e w1 ⟨rfl, hb1⟩
  have HB1 := Lib.hid (HW0.out.trans (hb1.mono HW0.out.size))
  have HR := Lib.hid (HR.out.below' hb1)
  clear hb1 HW0
  have r0 := HR.out.cell 0
  have r1 := HR.out.cell 1
  have r2 := HR.out.cell 2
  have r3 := HR.out.cell 3
  have r4 := HR.out.cell 4
  have r5 := HR.out.cell 5
  have r6 := HR.out.cell 6
  have r7 := HR.out.cell 7
  have r8 := HR.out.cell 8
  have r9 := HR.out.cell 9
  have r10 := HR.out.cell 10
  have r11 := HR.out.cell 11
  have r12 := HR.out.cell 12
  have r13 := HR.out.cell 13
  simp at r0 r1 r2 r3 r4 r5 r6 r7 r8 r9 r10 r11 r12 r13
  go_wp2_with fail
  refine (XREF.out w1).mono ?_
  rintro e w2 ⟨rfl, hb2⟩
  have HB2 := Lib.hid (HB1.out.trans (hb2.mono HB1.out.size))
  have HR := Lib.hid (HR.out.below' hb2)
  clear hb2 HB1 r0 r1 r2 r3 r4 r5 r6 r7 r8 r9 r10 r11 r12 r13
  have r0 := HR.out.cell 0
  have r1 := HR.out.cell 1
  have r2 := HR.out.cell 2
  have r3 := HR.out.cell 3
  have r4 := HR.out.cell 4
  have r5 := HR.out.cell 5
  have r6 := HR.out.cell 6
  have r7 := HR.out.cell 7
  have r8 := HR.out.cell 8
  have r9 := HR.out.cell 9
  have r10 := HR.out.cell 10
  have r11 := HR.out.cell 11
  have r12 := HR.out.cell 12
  have r13 := HR.out.cell 13
  simp at r0 r1 r2 r3 r4 r5 r6 r7 r8 r9 r10 r11 r12 r13
  have hl2 := HR.out.lt
  go_wp2_with fail
  obtain ⟨w3, hw3⟩ : ∃ x, w2.alloc (.cells #[.string s, .int .i64 y, .int .i64 mo, .int .i64 d, .int .i64 h, .int .i64 mi, .int .i64 se, .int .i64 (me : Nat), .int .u32 (c : Nat), .int .i64 (p : Nat), .int .i64 (z : Nat), .bool wd, .bool lt] 30) = x := ⟨_, rfl⟩
  rw [hw3]
  have HB3 : Hid (Below w.heap.size w w3) := Lib.hid (hw3 ▸ HB2.out.alloc HB2.out.size _)
  have HR : Hid (Whole w3 w.heap.size 28 #[.string s, .int .i64 y, .int .i64 mo, .int .i64 d, .int .i64 h, .int .i64 mi, .int .i64 se, .int .i64 (me : Nat), .int .u32 (c : Nat), .int .i64 (p : Nat), .int .i64 (z : Nat), .bool wd, .bool lt, .int .i64 (pl : Nat)]) := Lib.hid (hw3 ▸ HR.out.alloc _)
  have HG : Hid (Whole w3 w2.heap.size 30 #[.string s, .int .i64 y, .int .i64 mo, .int .i64 d, .int .i64 h, .int .i64 mi, .int .i64 se, .int .i64 (me : Nat), .int .u32 (c : Nat), .int .i64 (p : Nat), .int .i64 (z : Nat), .bool wd, .bool lt]) := Lib.hid (hw3 ▸ Whole.new w2 30 _ rfl)
  obtain ⟨g, hg⟩ : ∃ g, w2.heap.size = g := ⟨_, rfl⟩
  rw [hg] at HG ⊢
  clear hw3 hg HB2 hl2 r0 r1 r2 r3 r4 r5 r6 r7 r8 r9 r10 r11 r12 r13
  refine (XRC.out w3).mono ?_
  rintro e w4 ⟨rfl, hb4⟩
  have HB4 := Lib.hid (HB3.out.trans (hb4.mono HB3.out.size))
  have HR := Lib.hid (HR.out.below' hb4)
  have HG := Lib.hid (HG.out.below' hb4)
  clear hb4 HB3
  have r0 := HR.out.cell 0
  have r1 := HR.out.cell 1
  have r2 := HR.out.cell 2
  have r3 := HR.out.cell 3
  have r4 := HR.out.cell 4
  have r5 := HR.out.cell 5
  have r6 := HR.out.cell 6
  have r7 := HR.out.cell 7
  have r8 := HR.out.cell 8
  have r9 := HR.out.cell 9
  have r10 := HR.out.cell 10
  have r11 := HR.out.cell 11
  have r12 := HR.out.cell 12
  have r13 := HR.out.cell 13
  simp at r0 r1 r2 r3 r4 r5 r6 r7 r8 r9 r10 r11 r12 r13
  go_wp2_with fail
  refine (XEN.out w4 (HE.out.below HB4.out)).mono ?_
  rintro e w5 ⟨A, c5, rfl, hB5, hb5⟩
  have HBS := Lib.hid (hB5)
  clear hB5
  have HB5 := Lib.hid (HB4.out.trans (hb5.mono HB4.out.size))
  have HR := Lib.hid (HR.out.below' hb5)
  have HG := Lib.hid (HG.out.below' hb5)
  clear hb5 HB4 r0 r1 r2 r3 r4 r5 r6 r7 r8 r9 r10 r11 r12 r13
  have r0 := HR.out.cell 0
  have r1 := HR.out.cell 1
  have r2 := HR.out.cell 2
  have r3 := HR.out.cell 3
  have r4 := HR.out.cell 4
  have r5 := HR.out.cell 5
  have r6 := HR.out.cell 6
  have r7 := HR.out.cell 7
  have r8 := HR.out.cell 8
  have r9 := HR.out.cell 9
  have r10 := HR.out.cell 10
  have r11 := HR.out.cell 11
  have r12 := HR.out.cell 12
  have r13 := HR.out.cell 13
  simp at r0 r1 r2 r3 r4 r5 r6 r7 r8 r9 r10 r11 r12 r13
  go_wp2_with fail
  refine (XHC.out w5 (HE.out.below HB5.out)).mono ?_
  rintro e w6 ⟨rfl, hb6⟩
  have HB6 := Lib.hid (HB5.out.trans (hb6.mono HB5.out.size))
  have HR := Lib.hid (HR.out.below' hb6)
  have HG := Lib.hid (HG.out.below' hb6)
  have HBS := Lib.hid (HBS.out.below hb6)
  clear hb6 HB5 r0 r1 r2 r3 r4 r5 r6 r7 r8 r9 r10 r11 r12 r13
  go_wp2_with fail
  have q0 := fun mm => (HG.out.below' (World.over_below w6 mm)).cell 0
  have q1 := fun mm => (HG.out.below' (World.over_below w6 mm)).cell 1
  have q2 := fun mm => (HG.out.below' (World.over_below w6 mm)).cell 2
  have q3 := fun mm => (HG.out.below' (World.over_below w6 mm)).cell 3
  have q4 := fun mm => (HG.out.below' (World.over_below w6 mm)).cell 4
  have q5 := fun mm => (HG.out.below' (World.over_below w6 mm)).cell 5
  have q6 := fun mm => (HG.out.below' (World.over_below w6 mm)).cell 6
  have q7 := fun mm => (HG.out.below' (World.over_below w6 mm)).cell 7
  have q8 := fun mm => (HG.out.below' (World.over_below w6 mm)).cell 8
  have q9 := fun mm => (HG.out.below' (World.over_below w6 mm)).cell 9
  have q10 := fun mm => (HG.out.below' (World.over_below w6 mm)).cell 10
  have q11 := fun mm => (HG.out.below' (World.over_below w6 mm)).cell 11
  have q12 := fun mm => (HG.out.below' (World.over_below w6 mm)).cell 12
  have r13 := fun mm => (HR.out.below' (World.over_below w6 mm)).cell 13
  simp at r13 q0 q1 q2 q3 q4 q5 q6 q7 q8 q9 q10 q11 q12
  have k1 := fun mm => str_of (w := w6.over mm) c5 (HBS.out.below (World.over_below w6 mm))
  refine wp_region_free2 (mk := fun j => [].any (Nat.beq j)) (by kernel_rfl) (by kernel_rfl) (by kernel_rfl) ?_
  iterate 8 (first | ((with_reducible refine vfree_skip rfl ?_ ?_); (focus rfl); intro K hK; go_big_quiet_op; go_big_quiet_on) | ((with_reducible refine vfree_hard ?_ ?_ ?_); (focus rfl); (focus rfl); intro K hK; go_big_quiet_op; go_big_quiet_on))
  refine vfree_soft (ι := Option Addr × Nat) (fun i => .slice i.1 (n) i.2) (fun i w' => Bs w' (fun b => w6.heap.size ≤ b) i.1 (n) (bs)) rfl rfl rfl (fun _ => firm_bs) (fun w' hw' => ?_) (fun i => ?_)
  · have hb := hw'.1.below
    go_simp
    refine (XRE.out w').mono ?_
    rintro e w2 ⟨A', c', rfl, ho, hb2⟩
    exact ⟨hb2, (A', c'), rfl, ho.mono fun b h => by have := hb.size; omega⟩
  obtain ⟨A9, c9⟩ := i
  dsimp only
  intro K hK
  go_big_quiet_op
  go_big_quiet_on
  refine vfree_fact (.string ⟨bs.toArray⟩) rfl rfl rfl (fun w' hw' => ?_) ?_
  · have hf := str_of c9 (hw'.2 8 (by kernel_rfl)).1
    clear hw'
    go_simp
  intro K hK
  go_big_quiet_op
  go_big_quiet_on
  iterate 3 (first | ((with_reducible refine vfree_skip rfl ?_ ?_); (focus rfl); intro K hK; go_big_quiet_op; go_big_quiet_on) | ((with_reducible refine vfree_hard ?_ ?_ ?_); (focus rfl); (focus rfl); intro K hK; go_big_quiet_op; go_big_quiet_on))
  refine vfree_nil ?_
  intro w7 hb7 hk7
  have HB7 := Lib.hid (HB6.out.trans (hb7.mono HB6.out.size))
  clear hk7 hb7 k1 r13 q0 q1 q2 q3 q4 q5 q6 q7 q8 q9 q10 q11 q12
  go_wp2
  all_goals first
    | (go_ret; exact ⟨by first | rfl | simp, HB7.out⟩)
    | skip
theorem cwrites_any (s : ByteArray) (y mo d h mi se me : Int) (c : Nat) (p z : Int) (wd lt : Bool) (pl : Int) (w : World) (hE : Env w) (hc : c < 4294967296) : Calls Tryd.prog 3 #[.agg #[.string s, .int .i64 y, .int .i64 mo, .int .i64 d, .int .i64 h, .int .i64 mi, .int .i64 se, .int .i64 me, .int .u32 (c : Nat), .int .i64 p, .int .i64 z, .bool wd, .bool lt, .int .i64 pl]] w fun e w' => e = .returned (.bool true) ∧ Below w.heap.size w w' := by
  by_cases hs : s.size ≤ 1000
  · by_cases hk : codeC s (rightB y mo d h mi se) me p z pl = 0
    · obtain ⟨hk0, hk1, hk2⟩ := codeC_zero hk
      obtain ⟨_, _, h3, h4, _, h6, _⟩ := codeH_zero hk0
      obtain ⟨m, rfl⟩ : ∃ m : Nat, me = m := ⟨me.toNat, by omega⟩
      obtain ⟨q, rfl⟩ : ∃ q : Nat, p = q := ⟨p.toNat, by omega⟩
      obtain ⟨x, rfl⟩ : ∃ x : Nat, z = x := ⟨z.toNat, by omega⟩
      obtain ⟨v, rfl⟩ : ∃ v : Nat, pl = v := ⟨pl.toNat, by omega⟩
      exact cwrites_good s y mo d h mi se m c q x wd lt v w hE hs hc hk
    · exact cwrites_bad s y mo d h mi se me c p z wd lt pl w hE hs (by simpa using hk)
  · exact cwrites_long s y mo d h mi se me c p z wd lt pl w hE (by omega)
end Go.Proofs.YtdmglpnieiiigaaDoor
