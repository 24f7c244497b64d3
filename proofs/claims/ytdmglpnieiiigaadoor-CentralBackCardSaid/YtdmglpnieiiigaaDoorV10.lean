/- The law of writing and reading. -/
import Derived.Test.YtdmglpnieiiigaaDoorV9
import Derived.Deep.RegionLaw
namespace Go.Proofs.YtdmglpnieiiigaaDoor
open Go.RowKit

theorem own_none (w : World) (e : TypeId) (sz : Nat) {B : Nat} (hB : B ≤ w.heap.size) : (w.alloc (.cells #[] e)).ownsRow B e sz (.slice (some ⟨w.heap.size, 0, none⟩) 0 0) 0 [] :=
  ⟨by simp, .inr ⟨w.heap.size, 0, #[], rfl, hB, heap_alloc_new w _, Nat.le_refl _, by unfold maxLen; omega, by simp, by simp⟩⟩
theorem eq_en (s : ByteArray) (y mo d h mi se me c p z : Int) (wd lt : Bool) (pl : Int) (w : World) : (Op.equalIn 10000 28 (.agg #[.string s, .int .i64 y, .int .i64 mo, .int .i64 d, .int .i64 h, .int .i64 mi, .int .i64 se, .int .i64 me, .int .u32 c, .int .i64 p, .int .i64 z, .bool wd, .bool lt, .int .i64 pl]) (.agg #[.string s, .int .i64 y, .int .i64 mo, .int .i64 d, .int .i64 h, .int .i64 mi, .int .i64 se, .int .i64 me, .int .u32 c, .int .i64 p, .int .i64 z, .bool wd, .bool lt, .int .i64 pl])).run Tryd.prog w = .ok true w := by
  simp [go_sem]
set_option maxRecDepth 100000 in
set_option maxHeartbeats 8000000 in
theorem back_good (s : ByteArray) (y mo d h mi se : Int) (me c p z pl : Nat) (wd lt : Bool) (Aa : Option Addr) (l ca : Nat) (ah : List UInt8) (k : Nat) (E : List UInt8) (LE : Nat) (W : World) (hE : Env W) (hk : k < 256) (hA : Bs W (fun b => b < W.heap.size) Aa l ah) (hT : ∀ w, Env w → Calls Tryd.prog 9 #[.agg #[.string s, .int .i64 y, .int .i64 mo, .int .i64 d, .int .i64 h, .int .i64 mi, .int .i64 se, .int .i64 (me : Nat), .int .u32 (c : Nat), .int .i64 (p : Nat), .int .i64 (z : Nat), .bool wd, .bool lt, .int .i64 (pl : Nat)]] w (EncP LE E w)) (hG : Good (.agg #[.string s, .int .i64 y, .int .i64 mo, .int .i64 d, .int .i64 h, .int .i64 mi, .int .i64 se, .int .i64 (me : Nat), .int .u32 (c : Nat), .int .i64 (p : Nat), .int .i64 (z : Nat), .bool wd, .bool lt, .int .i64 (pl : Nat)]) E LE) : Calls Tryd.prog 5 #[.agg #[.string s, .int .i64 y, .int .i64 mo, .int .i64 d, .int .i64 h, .int .i64 mi, .int .i64 se, .int .i64 (me : Nat), .int .u32 (c : Nat), .int .i64 (p : Nat), .int .i64 (z : Nat), .bool wd, .bool lt, .int .i64 (pl : Nat)], .slice Aa l ca, .int .u8 (k : Nat)] W fun e w' => e = .returned (.bool true) ∧ Below W.heap.size W w' := by
  obtain ⟨i0, hi, hz0, hz1, hz2⟩ := info_parts info5
  obtain ⟨⟨hL1, hL2, hL3⟩, hG1, hG2⟩ := hG
  have HG1 := Lib.hid hG1
  have HG2 := Lib.hid hG2
  have HT := Lib.hid hT
  have HE := Lib.hid hE
  have HA := Lib.hid hA
  have HL := Lib.hid hA.len
  have HEL := Lib.hid hL3
  have hLz : ((LE : Int) == 0) = false := by rw [beq_eq_false_iff_ne]; omega
  have hLz' : (LE == 0) = false := by rw [beq_eq_false_iff_ne]; omega
  have kc : IntKind.i64.wrap (k : Int) = (k : Int) := IntWalk.i64_in _ (by omega)
  have Q := eq_en s y mo d h mi se (me : Nat) (c : Nat) (p : Nat) (z : Nat) wd lt (pl : Nat)
  clear hA hT hG1 hG2 hE hL3
  go_enter Tryd.func5, Tryd.ntmps5
  go_wp2_with fail
  obtain ⟨w0, hw0⟩ : ∃ w0, W.alloc (.cells #[.string s, .int .i64 y, .int .i64 mo, .int .i64 d, .int .i64 h, .int .i64 mi, .int .i64 se, .int .i64 (me : Nat), .int .u32 (c : Nat), .int .i64 (p : Nat), .int .i64 (z : Nat), .bool wd, .bool lt, .int .i64 (pl : Nat)] 28) = w0 := ⟨_, rfl⟩
  rw [hw0]
  have HW0 : Hid (Below W.heap.size W w0) := Lib.hid (hw0 ▸ (Below.refl _ _).alloc (Nat.le_refl _) _)
  have HR : Hid (Whole w0 W.heap.size 28 #[.string s, .int .i64 y, .int .i64 mo, .int .i64 d, .int .i64 h, .int .i64 mi, .int .i64 se, .int .i64 (me : Nat), .int .u32 (c : Nat), .int .i64 (p : Nat), .int .i64 (z : Nat), .bool wd, .bool lt, .int .i64 (pl : Nat)]) := Lib.hid (hw0 ▸ Whole.new W 28 _ rfl)
  clear hw0
  refine (cawake_any w0 (HE.out.below HW0.out)).mono ?_
  rintro e w1 ⟨rfl, hb1⟩
  have HB1 : Hid (Below W.heap.size W w1) := Lib.hid (HW0.out.trans (hb1.mono HW0.out.size))
  have HR := Lib.hid (HR.out.below' hb1)
  have r0 := HR.out.cell 0
  have r1 := HR.out.cell 1
  have r2 := HR.out.cell 2
  have r3 := HR.out.cell 3
  have r4 := HR.out.cell 4
  have r5 := HR.out.cell 5
  have r6 := HR.out.cell 6
  have r7 := HR.out.cell 7
  have r8 := HR.out.cell 8
  have r9 := HR.out.cell 9
  have r10 := HR.out.cell 10
  have r11 := HR.out.cell 11
  have r12 := HR.out.cell 12
  have r13 := HR.out.cell 13
  simp at r0 r1 r2 r3 r4 r5 r6 r7 r8 r9 r10 r11 r12 r13
  clear hb1
  go_wp2_with fail
  refine (HT.out w1 (HE.out.below HB1.out)).mono ?_
  rintro e w2 ⟨A1, c1, rfl, hO, hC1, hb2⟩
  have HB2 := Lib.hid (HB1.out.trans (hb2.mono HB1.out.size))
  have HO := Lib.hid hO
  have HC1 := Lib.hid hC1
  have HR := Lib.hid (HR.out.below' hb2)
  clear hb2 hO hC1 r0 r1 r2 r3 r4 r5 r6 r7 r8 r9 r10 r11 r12 r13
  by_cases h3 : 300 < l
  · have d1 : decide (300 < l) = true := by simpa using h3
    have d1' : decide ((300 : Int) < (l : Int)) = true := by simp; omega
    go_wp2
    go_ret
    exact ⟨rfl, HB2.out⟩
  have d1 : decide (300 < l) = false := by simpa using h3
  have d1' : decide ((300 : Int) < (l : Int)) = false := by simp; omega
  have hl3 : l ≤ 300 := by omega
  clear h3
  go_wp2_with (at_builtin; refine wpList_append_list _ rfl (.tmp 33) (.tmp 34) 33 rfl w2.heap.size 5 i0 (.int .u8 0) 1 1 Tryd.underlying33 hi hz0 hz1 hz2 rfl (by decide) (.slice (some ⟨w2.heap.size, 0, none⟩) 0 0) 0 [] rfl (own_none w2 5 1 (Nat.le_refl _)) _ A1 LE c1 _ rfl (Bs.alloc HO.out _) oneCell_bytes (by unfold maxLen; omega) (by omega) (by simp) ?_)
  intro A3 c3 x3 hown3 hgrow3 hat3
  have HB3 := Lib.hid (((Below.refl w2.heap.size w2).alloc (Nat.le_refl _) (.cells #[] 5)).grown hgrow3 (by simp) (fun g e => by simp [Value.ownBlock] at e; omega))
  have HO3 : Hid (x3.ownsRow w2.heap.size 5 1 (.slice A3 LE c3) LE (E.map bv)) := Lib.hid (by simpa using hown3)
  clear hown3 hgrow3 hat3
  go_wp2_with (at_builtin; refine wpList_append_list _ rfl (.tmp 35) (.tmp 36) 33 rfl w2.heap.size 5 i0 (.int .u8 0) 1 1 Tryd.underlying33 hi hz0 hz1 hz2 rfl (by decide) (.slice A3 LE c3) LE _ rfl HO3.out _ Aa l ca _ rfl ((HA.out.below HB2.out).below HB3.out) oneCell_bytes (by unfold maxLen; omega) (by omega) HB3.out.size ?_)
  intro A5 c5 x5 hown5 hgrow5 hat5
  have HB5 := Lib.hid (HB3.out.grown hgrow5 HB3.out.size (fun g e => (World.ownsRow.lt HO3.out g e).1))
  have HAL : Hid (Bs x5 (fun b => w2.heap.size ≤ b) A5 (LE + l) (E ++ ah)) := Lib.hid (Bs.of_own (by rw [List.map_append]; exact hown5))
  have HC5 := Lib.hid (own_cap hown5)
  have HO := Lib.hid (HO.out.below HB5.out)
  have HR := Lib.hid (HR.out.below' HB5.out)
  have HB5 := Lib.hid (HB2.out.trans (HB5.out.mono HB2.out.size))
  clear hown5 hgrow5 hat5 HO3 HB3
  have r0 := HR.out.cell 0
  have r1 := HR.out.cell 1
  have r2 := HR.out.cell 2
  have r3 := HR.out.cell 3
  have r4 := HR.out.cell 4
  have r5 := HR.out.cell 5
  have r6 := HR.out.cell 6
  have r7 := HR.out.cell 7
  have r8 := HR.out.cell 8
  have r9 := HR.out.cell 9
  have r10 := HR.out.cell 10
  have r11 := HR.out.cell 11
  have r12 := HR.out.cell 12
  have r13 := HR.out.cell 13
  simp at r0 r1 r2 r3 r4 r5 r6 r7 r8 r9 r10 r11 r12 r13
  have HP := Lib.hid (HG1.out x5 A5 (LE + l) c5 ah _ (HE.out.below HB5.out) HAL.out (by omega) HC5.out.1 HC5.out.2)
  go_wp2_with fail
  refine HP.out.mono ?_
  rintro e w5 ⟨rfl, hb5⟩
  have hlw := (HR.out.below' hb5).lt
  have HR := Lib.hid ((HR.out.below' hb5).alloc (.cells #[.string s, .int .i64 y, .int .i64 mo, .int .i64 d, .int .i64 h, .int .i64 mi, .int .i64 se, .int .i64 (me : Nat), .int .u32 (c : Nat), .int .i64 (p : Nat), .int .i64 (z : Nat), .bool wd, .bool lt, .int .i64 (pl : Nat)] 28))
  have HO := Lib.hid (Bs.alloc (HO.out.below hb5).and_lt (.cells #[.string s, .int .i64 y, .int .i64 mo, .int .i64 d, .int .i64 h, .int .i64 mi, .int .i64 se, .int .i64 (me : Nat), .int .u32 (c : Nat), .int .i64 (p : Nat), .int .i64 (z : Nat), .bool wd, .bool lt, .int .i64 (pl : Nat)] 28))
  have HX : Hid (Whole (w5.alloc (.cells #[.string s, .int .i64 y, .int .i64 mo, .int .i64 d, .int .i64 h, .int .i64 mi, .int .i64 se, .int .i64 (me : Nat), .int .u32 (c : Nat), .int .i64 (p : Nat), .int .i64 (z : Nat), .bool wd, .bool lt, .int .i64 (pl : Nat)] 28)) w5.heap.size 28 #[.string s, .int .i64 y, .int .i64 mo, .int .i64 d, .int .i64 h, .int .i64 mi, .int .i64 se, .int .i64 (me : Nat), .int .u32 (c : Nat), .int .i64 (p : Nat), .int .i64 (z : Nat), .bool wd, .bool lt, .int .i64 (pl : Nat)]) := Lib.hid (Whole.new w5 28 _ rfl)
  have HB6 := Lib.hid ((HB5.out.trans (hb5.mono HB5.out.size)).alloc (HB5.out.trans (hb5.mono HB5.out.size)).size (.cells #[.string s, .int .i64 y, .int .i64 mo, .int .i64 d, .int .i64 h, .int .i64 mi, .int .i64 se, .int .i64 (me : Nat), .int .u32 (c : Nat), .int .i64 (p : Nat), .int .i64 (z : Nat), .bool wd, .bool lt, .int .i64 (pl : Nat)] 28))
  clear hb5 HP HB5 HAL r0 r1 r2 r3 r4 r5 r6 r7 r8 r9 r10 r11 r12 r13
  have r0 := HR.out.cell 0
  have r1 := HR.out.cell 1
  have r2 := HR.out.cell 2
  have r3 := HR.out.cell 3
  have r4 := HR.out.cell 4
  have r5 := HR.out.cell 5
  have r6 := HR.out.cell 6
  have r7 := HR.out.cell 7
  have r8 := HR.out.cell 8
  have r9 := HR.out.cell 9
  have r10 := HR.out.cell 10
  have r11 := HR.out.cell 11
  have r12 := HR.out.cell 12
  have r13 := HR.out.cell 13
  simp at r0 r1 r2 r3 r4 r5 r6 r7 r8 r9 r10 r11 r12 r13
  obtain ⟨m, hm⟩ : ∃ m, k % LE = m := ⟨_, rfl⟩
  have hmL : m < LE := hm ▸ Nat.mod_lt _ (by omega)
  have km : Int.tmod (k : Int) (LE : Int) = (m : Int) := by rw [← hm]; exact (Int.ofNat_tmod k LE).symm
  have HS := Lib.hid (HO.out.take (k := m) (by omega))
  have i1 : (m : Int) ≤ (c1 : Int) := by have := HC1.out; omega
  have HN := Lib.hid (fun w' (hb : Below (w5.alloc (.cells #[.string s, .int .i64 y, .int .i64 mo, .int .i64 d, .int .i64 h, .int .i64 mi, .int .i64 se, .int .i64 (me : Nat), .int .u32 (c : Nat), .int .i64 (p : Nat), .int .i64 (z : Nat), .bool wd, .bool lt, .int .i64 (pl : Nat)] 28)).heap.size (w5.alloc (.cells #[.string s, .int .i64 y, .int .i64 mo, .int .i64 d, .int .i64 h, .int .i64 mi, .int .i64 se, .int .i64 (me : Nat), .int .u32 (c : Nat), .int .i64 (p : Nat), .int .i64 (z : Nat), .bool wd, .bool lt, .int .i64 (pl : Nat)] 28)) w') => HG2.out w' A1 m c1 _ (HE.out.below (HB6.out.trans (hb.mono HB6.out.size))) (HS.out.below hb) (by omega) (by have := HC1.out; omega) (by have := HC1.out; omega))
  go_wp2_with fail
  obtain ⟨K, hK, hP⟩ := HN.out _ (Below.refl _ _)
  refine hP.mono ?_
  rintro e w7 ⟨rfl, hb7⟩
  have hK1 : (K == 0) = false := by simpa using hK
  have hK2 : (K != 0) = true := by rw [bne, hK1]; rfl
  have HKN := Lib.hid hK
  clear hK hP
  have HR := Lib.hid ((HR.out.below' hb7).alloc (.cells #[.string ⟨#[]⟩, .int .i64 0, .int .i64 0, .int .i64 0, .int .i64 0, .int .i64 0, .int .i64 0, .int .i64 0, .int .u32 0, .int .i64 0, .int .i64 0, .bool false, .bool false, .int .i64 0] 28))
  have HX := Lib.hid ((HX.out.below' hb7).alloc (.cells #[.string ⟨#[]⟩, .int .i64 0, .int .i64 0, .int .i64 0, .int .i64 0, .int .i64 0, .int .i64 0, .int .i64 0, .int .u32 0, .int .i64 0, .int .i64 0, .bool false, .bool false, .int .i64 0] 28))
  have HB8 := Lib.hid ((HB6.out.trans (hb7.mono HB6.out.size)).alloc (HB6.out.trans (hb7.mono HB6.out.size)).size (.cells #[.string ⟨#[]⟩, .int .i64 0, .int .i64 0, .int .i64 0, .int .i64 0, .int .i64 0, .int .i64 0, .int .i64 0, .int .u32 0, .int .i64 0, .int .i64 0, .bool false, .bool false, .int .i64 0] 28))
  clear hb7
  have r0 := HR.out.cell 0
  have r1 := HR.out.cell 1
  have r2 := HR.out.cell 2
  have r3 := HR.out.cell 3
  have r4 := HR.out.cell 4
  have r5 := HR.out.cell 5
  have r6 := HR.out.cell 6
  have r7 := HR.out.cell 7
  have r8 := HR.out.cell 8
  have r9 := HR.out.cell 9
  have r10 := HR.out.cell 10
  have r11 := HR.out.cell 11
  have r12 := HR.out.cell 12
  have r13 := HR.out.cell 13
  simp at r0 r1 r2 r3 r4 r5 r6 r7 r8 r9 r10 r11 r12 r13
  have x0 := HX.out.cell 0
  have x1 := HX.out.cell 1
  have x2 := HX.out.cell 2
  have x3 := HX.out.cell 3
  have x4 := HX.out.cell 4
  have x5 := HX.out.cell 5
  have x6 := HX.out.cell 6
  have x7 := HX.out.cell 7
  have x8 := HX.out.cell 8
  have x9 := HX.out.cell 9
  have x10 := HX.out.cell 10
  have x11 := HX.out.cell 11
  have x12 := HX.out.cell 12
  have x13 := HX.out.cell 13
  simp at x0 x1 x2 x3 x4 x5 x6 x7 x8 x9 x10 x11 x12 x13
  have hlr := HR.out.lt
  have hlx := HX.out.lt
  go_wp2
  go_ret
  exact ⟨rfl, HB8.out⟩
end Go.Proofs.YtdmglpnieiiigaaDoor
