/- The law of writing and reading. -/
import Derived.Test.YtdpiaabmgdhekaaDoorV10
import Derived.Deep.RegionLaw
namespace Go.Proofs.YtdpiaabmgdhekaaDoor
open Go.RowKit

theorem own_none (w : World) (e : TypeId) (sz : Nat) {B : Nat} (hB : B ≤ w.heap.size) : (w.alloc (.cells #[] e)).ownsRow B e sz (.slice (some ⟨w.heap.size, 0, none⟩) 0 0) 0 [] :=
  ⟨by simp, .inr ⟨w.heap.size, 0, #[], rfl, hB, heap_alloc_new w _, Nat.le_refl _, by unfold maxLen; omega, by simp, by simp⟩⟩
theorem eq_hd (s : ByteArray) (y mo d h mi se me c p z : Int) (wd lt : Bool) (w : World) : (Op.equalIn 10000 26 (.agg #[.string s, .int .i64 y, .int .i64 mo, .int .i64 d, .int .i64 h, .int .i64 mi, .int .i64 se, .int .i64 me, .int .u32 c, .int .i64 p, .int .i64 z, .bool wd, .bool lt]) (.agg #[.string s, .int .i64 y, .int .i64 mo, .int .i64 d, .int .i64 h, .int .i64 mi, .int .i64 se, .int .i64 me, .int .u32 c, .int .i64 p, .int .i64 z, .bool wd, .bool lt])).run Tryd.prog w = .ok true w := by
  simp [go_sem]
set_option maxRecDepth 100000 in
set_option maxHeartbeats 8000000 in
theorem back_plain (s : ByteArray) (y mo d h mi se : Int) (me c p z : Nat) (wd : Bool) (Aa : Option Addr) (l ca : Nat) (ah : List UInt8) (k : Nat) (E : List UInt8) (LE : Nat) (W : World) (hE : Env W) (hk : k < 256) (hA : Bs W (fun b => b < W.heap.size) Aa l ah) (hT : ∀ w, Env w → Calls Tryd.prog 9 #[.agg #[.string s, .int .i64 y, .int .i64 mo, .int .i64 d, .int .i64 h, .int .i64 mi, .int .i64 se, .int .i64 (me : Nat), .int .u32 (c : Nat), .int .i64 (p : Nat), .int .i64 (z : Nat), .bool wd, .bool false]] w (EncP LE E w)) (hG : Good (.agg #[.string s, .int .i64 y, .int .i64 mo, .int .i64 d, .int .i64 h, .int .i64 mi, .int .i64 se, .int .i64 (me : Nat), .int .u32 (c : Nat), .int .i64 (p : Nat), .int .i64 (z : Nat), .bool wd, .bool false]) E LE) : Calls Tryd.prog 5 #[.agg #[.string s, .int .i64 y, .int .i64 mo, .int .i64 d, .int .i64 h, .int .i64 mi, .int .i64 se, .int .i64 (me : Nat), .int .u32 (c : Nat), .int .i64 (p : Nat), .int .i64 (z : Nat), .bool wd, .bool false], .slice Aa l ca, .int .u8 (k : Nat)] W fun e w' => e = .returned (.bool true) ∧ Below W.heap.size W w' := by
  obtain ⟨i0, hi, hz0, hz1, hz2⟩ := info_parts info5
  obtain ⟨⟨hL1, hL2, hL3⟩, hG1, hG2⟩ := hG
  have HG1 := Lib.hid hG1
  have HG2 := Lib.hid hG2
  have HT := Lib.hid hT
  have HE := Lib.hid hE
  have HA := Lib.hid hA
  have HL := Lib.hid hA.len
  have HEL := Lib.hid hL3
  have hLz : ((LE : Int) == 0) = false := by rw [beq_eq_false_iff_ne]; omega
  have hLz' : (LE == 0) = false := by rw [beq_eq_false_iff_ne]; omega
  have kc : IntKind.i64.wrap (k : Int) = (k : Int) := IntWalk.i64_in _ (by omega)
  have Q := eq_hd s y mo d h mi se (me : Nat) (c : Nat) (p : Nat) (z : Nat) wd false
  clear hA hT hG1 hG2 hE hL3
  go_enter Tryd.func5, Tryd.ntmps5
  go_wp2_with fail
  obtain ⟨w0, hw0⟩ : ∃ w0, W.alloc (.cells #[.string s, .int .i64 y, .int .i64 mo, .int .i64 d, .int .i64 h, .int .i64 mi, .int .i64 se, .int .i64 (me : Nat), .int .u32 (c : Nat), .int .i64 (p : Nat), .int .i64 (z : Nat), .bool wd, .bool false] 26) = w0 := ⟨_, rfl⟩
  rw [hw0]
  have HW0 : Hid (Below W.heap.size W w0) := Lib.hid (hw0 ▸ (Below.refl _ _).alloc (Nat.le_refl _) _)
  have HR : Hid (Whole w0 W.heap.size 26 #[.string s, .int .i64 y, .int .i64 mo, .int .i64 d, .int .i64 h, .int .i64 mi, .int .i64 se, .int .i64 (me : Nat), .int .u32 (c : Nat), .int .i64 (p : Nat), .int .i64 (z : Nat), .bool wd, .bool false]) := Lib.hid (hw0 ▸ Whole.new W 26 _ rfl)
  clear hw0
  refine (lawake_any w0 (HE.out.below HW0.out)).mono ?_
  rintro e w1 ⟨rfl, hb1⟩
  have HB1 : Hid (Below W.heap.size W w1) := Lib.hid (HW0.out.trans (hb1.mono HW0.out.size))
  have HR := Lib.hid (HR.out.below' hb1)
  have r0 := HR.out.cell 0
  have r1 := HR.out.cell 1
  have r2 := HR.out.cell 2
  have r3 := HR.out.cell 3
  have r4 := HR.out.cell 4
  have r5 := HR.out.cell 5
  have r6 := HR.out.cell 6
  have r7 := HR.out.cell 7
  have r8 := HR.out.cell 8
  have r9 := HR.out.cell 9
  have r10 := HR.out.cell 10
  have r11 := HR.out.cell 11
  have r12 := HR.out.cell 12
  simp at r0 r1 r2 r3 r4 r5 r6 r7 r8 r9 r10 r11 r12
  clear hb1
  go_wp2_with fail
  refine (HT.out w1 (HE.out.below HB1.out)).mono ?_
  rintro e w2 ⟨A1, c1, rfl, hO, hC1, hb2⟩
  have HB2 := Lib.hid (HB1.out.trans (hb2.mono HB1.out.size))
  have HO := Lib.hid hO
  have HC1 := Lib.hid hC1
  have HR := Lib.hid (HR.out.below' hb2)
  clear hb2 hO hC1 r0 r1 r2 r3 r4 r5 r6 r7 r8 r9 r10 r11 r12
  by_cases h3 : 300 < l
  · have d1 : decide (300 < l) = true := by simpa using h3
    have d1' : decide ((300 : Int) < (l : Int)) = true := by simp; omega
    go_wp2
    go_ret
    exact ⟨rfl, HB2.out⟩
  have d1 : decide (300 < l) = false := by simpa using h3
  have d1' : decide ((300 : Int) < (l : Int)) = false := by simp; omega
  have hl3 : l ≤ 300 := by omega
  clear h3
  go_wp2_with (at_builtin; refine wpList_append_list _ rfl (.tmp 34) (.tmp 35) 31 rfl w2.heap.size 5 i0 (.int .u8 0) 1 1 Tryd.underlying31 hi hz0 hz1 hz2 rfl (by decide) (.slice (some ⟨w2.heap.size, 0, none⟩) 0 0) 0 [] rfl (own_none w2 5 1 (Nat.le_refl _)) _ A1 LE c1 _ rfl (Bs.alloc HO.out _) oneCell_bytes (by unfold maxLen; omega) (by omega) (by simp) ?_)
  intro A3 c3 x3 hown3 hgrow3 hat3
  have HB3 := Lib.hid (((Below.refl w2.heap.size w2).alloc (Nat.le_refl _) (.cells #[] 5)).grown hgrow3 (by simp) (fun g e => by simp [Value.ownBlock] at e; omega))
  have HO3 : Hid (x3.ownsRow w2.heap.size 5 1 (.slice A3 LE c3) LE (E.map bv)) := Lib.hid (by simpa using hown3)
  clear hown3 hgrow3 hat3
  go_wp2_with (at_builtin; refine wpList_append_list _ rfl (.tmp 36) (.tmp 37) 31 rfl w2.heap.size 5 i0 (.int .u8 0) 1 1 Tryd.underlying31 hi hz0 hz1 hz2 rfl (by decide) (.slice A3 LE c3) LE _ rfl HO3.out _ Aa l ca _ rfl ((HA.out.below HB2.out).below HB3.out) oneCell_bytes (by unfold maxLen; omega) (by omega) HB3.out.size ?_)
  intro A5 c5 x5 hown5 hgrow5 hat5
  have HB5 := Lib.hid (HB3.out.grown hgrow5 HB3.out.size (fun g e => (World.ownsRow.lt HO3.out g e).1))
  have HAL : Hid (Bs x5 (fun b => w2.heap.size ≤ b) A5 (LE + l) (E ++ ah)) := Lib.hid (Bs.of_own (by rw [List.map_append]; exact hown5))
  have HC5 := Lib.hid (own_cap hown5)
  have HO := Lib.hid (HO.out.below HB5.out)
  have HR := Lib.hid (HR.out.below' HB5.out)
  have HB5 := Lib.hid (HB2.out.trans (HB5.out.mono HB2.out.size))
  clear hown5 hgrow5 hat5 HO3 HB3
  have r0 := HR.out.cell 0
  have r1 := HR.out.cell 1
  have r2 := HR.out.cell 2
  have r3 := HR.out.cell 3
  have r4 := HR.out.cell 4
  have r5 := HR.out.cell 5
  have r6 := HR.out.cell 6
  have r7 := HR.out.cell 7
  have r8 := HR.out.cell 8
  have r9 := HR.out.cell 9
  have r10 := HR.out.cell 10
  have r11 := HR.out.cell 11
  have r12 := HR.out.cell 12
  simp at r0 r1 r2 r3 r4 r5 r6 r7 r8 r9 r10 r11 r12
  have HP := Lib.hid (HG1.out x5 A5 (LE + l) c5 ah _ (HE.out.below HB5.out) HAL.out (by omega) HC5.out.1 HC5.out.2)
  go_wp2_with fail
  refine HP.out.mono ?_
  rintro e w5 ⟨rfl, hb5⟩
  have hlw := (HR.out.below' hb5).lt
  have HR := Lib.hid ((HR.out.below' hb5).alloc (.cells #[.string s, .int .i64 y, .int .i64 mo, .int .i64 d, .int .i64 h, .int .i64 mi, .int .i64 se, .int .i64 (me : Nat), .int .u32 (c : Nat), .int .i64 (p : Nat), .int .i64 (z : Nat), .bool wd, .bool false] 26))
  have HO := Lib.hid (Bs.alloc (HO.out.below hb5).and_lt (.cells #[.string s, .int .i64 y, .int .i64 mo, .int .i64 d, .int .i64 h, .int .i64 mi, .int .i64 se, .int .i64 (me : Nat), .int .u32 (c : Nat), .int .i64 (p : Nat), .int .i64 (z : Nat), .bool wd, .bool false] 26))
  have HX : Hid (Whole (w5.alloc (.cells #[.string s, .int .i64 y, .int .i64 mo, .int .i64 d, .int .i64 h, .int .i64 mi, .int .i64 se, .int .i64 (me : Nat), .int .u32 (c : Nat), .int .i64 (p : Nat), .int .i64 (z : Nat), .bool wd, .bool false] 26)) w5.heap.size 26 #[.string s, .int .i64 y, .int .i64 mo, .int .i64 d, .int .i64 h, .int .i64 mi, .int .i64 se, .int .i64 (me : Nat), .int .u32 (c : Nat), .int .i64 (p : Nat), .int .i64 (z : Nat), .bool wd, .bool false]) := Lib.hid (Whole.new w5 26 _ rfl)
  have HB6 := Lib.hid ((HB5.out.trans (hb5.mono HB5.out.size)).alloc (HB5.out.trans (hb5.mono HB5.out.size)).size (.cells #[.string s, .int .i64 y, .int .i64 mo, .int .i64 d, .int .i64 h, .int .i64 mi, .int .i64 se, .int .i64 (me : Nat), .int .u32 (c : Nat), .int .i64 (p : Nat), .int .i64 (z : Nat), .bool wd, .bool false] 26))
  clear hb5 HP HB5 HAL r0 r1 r2 r3 r4 r5 r6 r7 r8 r9 r10 r11 r12
  have r0 := HR.out.cell 0
  have r1 := HR.out.cell 1
  have r2 := HR.out.cell 2
  have r3 := HR.out.cell 3
  have r4 := HR.out.cell 4
  have r5 := HR.out.cell 5
  have r6 := HR.out.cell 6
  have r7 := HR.out.cell 7
  have r8 := HR.out.cell 8
  have r9 := HR.out.cell 9
  have r10 := HR.out.cell 10
  have r11 := HR.out.cell 11
  have r12 := HR.out.cell 12
  simp at r0 r1 r2 r3 r4 r5 r6 r7 r8 r9 r10 r11 r12
  obtain ⟨m, hm⟩ : ∃ m, k % LE = m := ⟨_, rfl⟩
  have hmL : m < LE := hm ▸ Nat.mod_lt _ (by omega)
  have km : Int.tmod (k : Int) (LE : Int) = (m : Int) := by rw [← hm]; exact (Int.ofNat_tmod k LE).symm
  have HS := Lib.hid (HO.out.take (k := m) (by omega))
  have i1 : (m : Int) ≤ (c1 : Int) := by have := HC1.out; omega
  have hw6 : (w5.alloc (.cells #[.string s, .int .i64 y, .int .i64 mo, .int .i64 d, .int .i64 h, .int .i64 mi, .int .i64 se, .int .i64 (me : Nat), .int .u32 (c : Nat), .int .i64 (p : Nat), .int .i64 (z : Nat), .bool wd, .bool false] 26)).heap.size = w5.heap.size + 1 := by simp
  have hne1 : ¬ w5.heap.size + 1 = W.heap.size := by omega
  have hne2 : ¬ W.heap.size = w5.heap.size + 1 := by omega
  have HY := Lib.hid (Whole.new (w5.alloc (.cells #[.string s, .int .i64 y, .int .i64 mo, .int .i64 d, .int .i64 h, .int .i64 mi, .int .i64 se, .int .i64 (me : Nat), .int .u32 (c : Nat), .int .i64 (p : Nat), .int .i64 (z : Nat), .bool wd, .bool false] 26)) 26 #[.string s, .int .i64 y, .int .i64 mo, .int .i64 d, .int .i64 h, .int .i64 mi, .int .i64 se, .int .i64 (me : Nat), .int .u32 (c : Nat), .int .i64 (p : Nat), .int .i64 (z : Nat), .bool wd, .bool false] rfl)
  have HR := Lib.hid (HR.out.alloc (.cells #[.string s, .int .i64 y, .int .i64 mo, .int .i64 d, .int .i64 h, .int .i64 mi, .int .i64 se, .int .i64 (me : Nat), .int .u32 (c : Nat), .int .i64 (p : Nat), .int .i64 (z : Nat), .bool wd, .bool false] 26))
  have HX := Lib.hid (HX.out.alloc (.cells #[.string s, .int .i64 y, .int .i64 mo, .int .i64 d, .int .i64 h, .int .i64 mi, .int .i64 se, .int .i64 (me : Nat), .int .u32 (c : Nat), .int .i64 (p : Nat), .int .i64 (z : Nat), .bool wd, .bool false] 26))
  have HS := Lib.hid (Bs.alloc HS.out (.cells #[.string s, .int .i64 y, .int .i64 mo, .int .i64 d, .int .i64 h, .int .i64 mi, .int .i64 se, .int .i64 (me : Nat), .int .u32 (c : Nat), .int .i64 (p : Nat), .int .i64 (z : Nat), .bool wd, .bool false] 26))
  have HB7 := Lib.hid (HB6.out.alloc HB6.out.size (.cells #[.string s, .int .i64 y, .int .i64 mo, .int .i64 d, .int .i64 h, .int .i64 mi, .int .i64 se, .int .i64 (me : Nat), .int .u32 (c : Nat), .int .i64 (p : Nat), .int .i64 (z : Nat), .bool wd, .bool false] 26))
  rw [hw6] at HY
  have HN := Lib.hid (fun w' (hb : Below ((w5.alloc (.cells #[.string s, .int .i64 y, .int .i64 mo, .int .i64 d, .int .i64 h, .int .i64 mi, .int .i64 se, .int .i64 (me : Nat), .int .u32 (c : Nat), .int .i64 (p : Nat), .int .i64 (z : Nat), .bool wd, .bool false] 26)).alloc (.cells #[.string s, .int .i64 y, .int .i64 mo, .int .i64 d, .int .i64 h, .int .i64 mi, .int .i64 se, .int .i64 (me : Nat), .int .u32 (c : Nat), .int .i64 (p : Nat), .int .i64 (z : Nat), .bool wd, .bool false] 26)).heap.size ((w5.alloc (.cells #[.string s, .int .i64 y, .int .i64 mo, .int .i64 d, .int .i64 h, .int .i64 mi, .int .i64 se, .int .i64 (me : Nat), .int .u32 (c : Nat), .int .i64 (p : Nat), .int .i64 (z : Nat), .bool wd, .bool false] 26)).alloc (.cells #[.string s, .int .i64 y, .int .i64 mo, .int .i64 d, .int .i64 h, .int .i64 mi, .int .i64 se, .int .i64 (me : Nat), .int .u32 (c : Nat), .int .i64 (p : Nat), .int .i64 (z : Nat), .bool wd, .bool false] 26)) w') => HG2.out w' A1 m c1 _ (HE.out.below (HB7.out.trans (hb.mono HB7.out.size))) (HS.out.below hb) (by omega) (by have := HC1.out; omega) (by have := HC1.out; omega))
  go_wp2_with fail
  obtain ⟨K, hK, hP⟩ := HN.out _ (Below.refl _ _)
  refine hP.mono ?_
  rintro e w7 ⟨rfl, hb7⟩
  have hK1 : (K == 0) = false := by simpa using hK
  have hK2 : (K != 0) = true := by rw [bne, hK1]; rfl
  have HKN := Lib.hid hK
  clear hK hP
  have HY := Lib.hid ((HY.out.below' hb7).alloc (.cells #[.string ⟨#[]⟩, .int .i64 0, .int .i64 0, .int .i64 0, .int .i64 0, .int .i64 0, .int .i64 0, .int .i64 0, .int .u32 0, .int .i64 0, .int .i64 0, .bool false, .bool false] 26))
  have HX := Lib.hid ((HX.out.below' hb7).alloc (.cells #[.string ⟨#[]⟩, .int .i64 0, .int .i64 0, .int .i64 0, .int .i64 0, .int .i64 0, .int .i64 0, .int .i64 0, .int .u32 0, .int .i64 0, .int .i64 0, .bool false, .bool false] 26))
  have HB8 := Lib.hid ((HB7.out.trans (hb7.mono HB7.out.size)).alloc (HB7.out.trans (hb7.mono HB7.out.size)).size (.cells #[.string ⟨#[]⟩, .int .i64 0, .int .i64 0, .int .i64 0, .int .i64 0, .int .i64 0, .int .i64 0, .int .i64 0, .int .u32 0, .int .i64 0, .int .i64 0, .bool false, .bool false] 26))
  clear hb7 HR r0 r1 r2 r3 r4 r5 r6 r7 r8 r9 r10 r11 r12
  have y0 := HY.out.cell 0
  have y1 := HY.out.cell 1
  have y2 := HY.out.cell 2
  have y3 := HY.out.cell 3
  have y4 := HY.out.cell 4
  have y5 := HY.out.cell 5
  have y6 := HY.out.cell 6
  have y7 := HY.out.cell 7
  have y8 := HY.out.cell 8
  have y9 := HY.out.cell 9
  have y10 := HY.out.cell 10
  have y11 := HY.out.cell 11
  have y12 := HY.out.cell 12
  simp at y0 y1 y2 y3 y4 y5 y6 y7 y8 y9 y10 y11 y12
  have x0 := HX.out.cell 0
  have x1 := HX.out.cell 1
  have x2 := HX.out.cell 2
  have x3 := HX.out.cell 3
  have x4 := HX.out.cell 4
  have x5 := HX.out.cell 5
  have x6 := HX.out.cell 6
  have x7 := HX.out.cell 7
  have x8 := HX.out.cell 8
  have x9 := HX.out.cell 9
  have x10 := HX.out.cell 10
  have x11 := HX.out.cell 11
  have x12 := HX.out.cell 12
  simp at x0 x1 x2 x3 x4 x5 x6 x7 x8 x9 x10 x11 x12
  go_wp2
  go_ret
  exact ⟨rfl, HB8.out⟩
end Go.Proofs.YtdpiaabmgdhekaaDoor
