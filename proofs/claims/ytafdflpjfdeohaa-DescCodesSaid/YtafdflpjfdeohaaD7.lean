/- DescBack, wide. -/
import Derived.Test.YtafdflpjfdeohaaD6
namespace Go.Proofs.Ytafdflpjfdeohaa
open Go.RowKit
set_option maxRecDepth 100000 in
set_option maxHeartbeats 4000000 in
theorem back_wide (c p s : Nat) (Aa : Option Addr) (l ca : Nat) (ah : List UInt8) (Az : Option Addr) (m cz : Nat) (be : List UInt8) (W : World) (hc : c < 4294967296) (hp : p ≤ 33554432) (hs : s ≤ 16777216) (hA : Bs W (fun b => b < W.heap.size) Aa l ah) (hZ : Bs W (fun b => b < W.heap.size) Az m be) : Calls Try.prog 4 #[.agg #[.int .u32 (c : Nat), .int .i64 (p : Nat), .int .i64 (s : Nat), .bool true], .slice Aa l ca, .slice Az m cz] W fun e w' => e = .returned (.bool true) ∧ Below W.heap.size W w' := by
  obtain ⟨i0, hi, hz0, hz1, hz2⟩ : ∃ i, Try.prog.info? 5 = some i ∧ i.zero = some (.int .u8 0) ∧ i.size = 1 ∧ i.bytes = 1 := by
    have h := info5
    cases hi : Try.prog.info? 5 with
    | none => rw [hi] at h; cases h
    | some i => rw [hi] at h; injection h with h; injection h with h1 h2; injection h2 with h2 h3; exact ⟨i, rfl, h1, h2, h3⟩
  have HE := Lib.hid (fun w => encode_wide c p s w hc hp hs)
  have HA := Lib.hid hA
  have HZ := Lib.hid hZ
  have HL := Lib.hid hA.len
  have HEL : Hid ((encD c p s true).length = 24) := Lib.hid (by rw [encD_cat, cat_len]; rfl)
  have Q := eq_tl (c : Nat) (p : Nat) (s : Nat) true
  clear hA hZ
  go_enter Try.func4, Try.ntmps4
  go_wp2_with fail
  obtain ⟨w0, hw0⟩ : ∃ w0, W.alloc (.cells #[.int .u32 (c : Nat), .int .i64 (p : Nat), .int .i64 (s : Nat), .bool true] 24) = w0 := ⟨_, rfl⟩
  rw [hw0]
  have HW0 : Hid (Below W.heap.size W w0) := Lib.hid (hw0 ▸ (Below.refl _ _).alloc (Nat.le_refl _) _)
  have HR : Hid (Whole w0 W.heap.size 24 #[.int .u32 (c : Nat), .int .i64 (p : Nat), .int .i64 (s : Nat), .bool true]) := Lib.hid (hw0 ▸ Whole.new W 24 _ rfl)
  clear hw0
  refine (awake_any w0).mono ?_
  rintro e w1 ⟨rfl, hb1⟩
  have HB1 : Hid (Below W.heap.size W w1) := Lib.hid (HW0.out.trans (hb1.mono HW0.out.size))
  have HR := Lib.hid (HR.out.below' hb1)
  have r0 := HR.out.cell 0
  have r1 := HR.out.cell 1
  have r2 := HR.out.cell 2
  have r3 := HR.out.cell 3
  simp at r0 r1 r2 r3
  clear hb1
  go_wp2_with fail
  refine (HE.out w1).mono ?_
  rintro e w2 ⟨A1, c1, rfl, hO, hC1, hb2⟩
  have HB2 := Lib.hid (HB1.out.trans (hb2.mono HB1.out.size))
  have HO := Lib.hid hO
  have HC1 := Lib.hid hC1
  have HR := Lib.hid (HR.out.below' hb2)
  clear hb2 hO hC1 r0 r1 r2 r3
  by_cases h3 : 300 < l
  · have d1 : decide (300 < l) = true := by simpa using h3
    have d1' : decide ((300 : Int) < (l : Int)) = true := by simp; omega
    go_wp2
    go_ret
    exact ⟨rfl, HB2.out⟩
  have d1 : decide (300 < l) = false := by simpa using h3
  have d1' : decide ((300 : Int) < (l : Int)) = false := by simp; omega
  have hl3 : l ≤ 300 := by omega
  clear h3
  by_cases h3 : 300 < m
  · have d2 : decide (300 < m) = true := by simpa using h3
    have d2' : decide ((300 : Int) < (m : Int)) = true := by simp; omega
    go_wp2
    go_ret
    exact ⟨rfl, HB2.out⟩
  have d2 : decide (300 < m) = false := by simpa using h3
  have d2' : decide ((300 : Int) < (m : Int)) = false := by simp; omega
  have hm3 : m ≤ 300 := by omega
  clear h3
  go_wp2_with (at_builtin; refine wpList_append_list _ rfl (.tmp 38) (.tmp 39) 25 rfl w2.heap.size 5 i0 (.int .u8 0) 1 1 Try.underlying25 hi hz0 hz1 hz2 rfl (by decide) (.slice (some ⟨w2.heap.size, 0, none⟩) 0 0) 0 [] rfl (own_none w2 5 1 (Nat.le_refl _)) _ Aa l ca _ rfl (Bs.alloc (HA.out.below HB2.out) _) oneCell_bytes (by unfold maxLen; omega) (by omega) (by simp) ?_)
  intro A3 c3 x3 hown3 hgrow3 hat3
  have HB3 := Lib.hid (((Below.refl w2.heap.size w2).alloc (Nat.le_refl _) (.cells #[] 5)).grown hgrow3 (by simp) (fun g e => by simp [Value.ownBlock] at e; omega))
  have HO3 : Hid (x3.ownsRow w2.heap.size 5 1 (.slice A3 l c3) l (ah.map bv)) := Lib.hid (by simpa using hown3)
  clear hown3 hgrow3 hat3
  go_wp2_with (at_builtin; refine wpList_append_list _ rfl (.tmp 40) (.tmp 41) 25 rfl w2.heap.size 5 i0 (.int .u8 0) 1 1 Try.underlying25 hi hz0 hz1 hz2 rfl (by decide) (.slice A3 l c3) l _ rfl HO3.out _ A1 24 c1 _ rfl (HO.out.below HB3.out) oneCell_bytes (by unfold maxLen; omega) (by omega) HB3.out.size ?_)
  intro A4 c4 x4 hown4 hgrow4 hat4
  have HB4 := Lib.hid (HB3.out.grown hgrow4 HB3.out.size (fun g e => (World.ownsRow.lt HO3.out g e).1))
  have HO4 := Lib.hid hown4
  clear hown4 hgrow4 hat4 HO3 HB3
  go_wp2_with (at_builtin; refine wpList_append_list _ rfl (.tmp 42) (.tmp 43) 25 rfl w2.heap.size 5 i0 (.int .u8 0) 1 1 Try.underlying25 hi hz0 hz1 hz2 rfl (by decide) (.slice A4 (l + 24) c4) (l + 24) _ rfl HO4.out _ Az m cz _ rfl ((HZ.out.below HB2.out).below HB4.out) oneCell_bytes (by unfold maxLen; omega) (by omega) HB4.out.size ?_)
  intro A5 c5 x5 hown5 hgrow5 hat5
  have HB5 := Lib.hid (HB4.out.grown hgrow5 HB4.out.size (fun g e => (World.ownsRow.lt HO4.out g e).1))
  have HAL : Hid (Bs x5 (fun b => w2.heap.size ≤ b) A5 (l + 24 + m) ((ah ++ encD c p s true) ++ be)) := Lib.hid (Bs.of_own (by rw [List.map_append, List.map_append]; first | exact hown5 | (rw [List.append_assoc]; exact hown5)))
  have HC5 := Lib.hid (own_cap hown5)
  have HO := Lib.hid (HO.out.below HB5.out)
  have HR := Lib.hid (HR.out.below' HB5.out)
  have HB5 := Lib.hid (HB2.out.trans (HB5.out.mono HB2.out.size))
  clear hown5 hgrow5 hat5 HO4 HB4
  have r3 := HR.out.cell 3
  simp at r3
  have HP := Lib.hid (parse_wide A5 (l + 24 + m) c5 l _ _ c p s x5 HAL.out (by omega) (by omega) HC5.out.1 HC5.out.2 (by rw [List.append_assoc, List.drop_left' HL.out, List.take_left' HEL.out]) hc hp hs)
  go_wp2_with fail
  refine HP.out.mono ?_
  rintro e w5 ⟨rfl, hb5⟩
  have hlw := (HR.out.below' hb5).lt
  have HR := Lib.hid ((HR.out.below' hb5).alloc (.cells #[.int .u32 (c : Nat), .int .i64 (p : Nat), .int .i64 (s : Nat), .bool true] 24))
  have HO := Lib.hid (Bs.alloc (HO.out.below hb5) (.cells #[.int .u32 (c : Nat), .int .i64 (p : Nat), .int .i64 (s : Nat), .bool true] 24))
  have HX : Hid (Whole (w5.alloc (.cells #[.int .u32 (c : Nat), .int .i64 (p : Nat), .int .i64 (s : Nat), .bool true] 24)) w5.heap.size 24 #[.int .u32 (c : Nat), .int .i64 (p : Nat), .int .i64 (s : Nat), .bool true]) := Lib.hid (Whole.new w5 24 _ rfl)
  have HB6 := Lib.hid ((HB5.out.trans (hb5.mono HB5.out.size)).alloc (HB5.out.trans (hb5.mono HB5.out.size)).size (.cells #[.int .u32 (c : Nat), .int .i64 (p : Nat), .int .i64 (s : Nat), .bool true] 24))
  clear hb5 HP HB5 HAL r3
  have r3 := HR.out.cell 3
  simp at r3
  have HS := Lib.hid (HO.out.take (k := 23) (by omega))
  have HN := Lib.hid (fun w' (hb : Below (w5.alloc (.cells #[.int .u32 (c : Nat), .int .i64 (p : Nat), .int .i64 (s : Nat), .bool true] 24)).heap.size (w5.alloc (.cells #[.int .u32 (c : Nat), .int .i64 (p : Nat), .int .i64 (s : Nat), .bool true] 24)) w') => parse_short_wide A1 23 c1 _ _ c p s w' (HS.out.below hb) rfl (by have := HC1.out.1; omega) HC1.out.2 rfl hc hp hs)
  have hne1 : ¬ w5.heap.size + 1 = W.heap.size := by omega
  have hne2 : ¬ W.heap.size = w5.heap.size + 1 := by omega
  have hlw2 : W.heap.size < w5.heap.size + 1 := by omega
  have i1 : (23 : Int) ≤ (c1 : Int) := by have := HC1.out.1; omega
  have e15 : IntKind.i64.wrap 23 = 23 := IntWalk.i64_in _ (by omega)
  have HB0 := Lib.hid ((Below.refl (w5.alloc (.cells #[.int .u32 (c : Nat), .int .i64 (p : Nat), .int .i64 (s : Nat), .bool true] 24)).heap.size (w5.alloc (.cells #[.int .u32 (c : Nat), .int .i64 (p : Nat), .int .i64 (s : Nat), .bool true] 24))).drew)
  go_wp2
  go_region_law (first
    | (go_simp
       go_at_call 10
       refine (HN.out _ (by first | exact HB0.out | exact HB0.out.alloc (by simp [World.drew]) _)).mono ?_
       rintro e w7 ⟨rfl, hb7⟩
       have HBX := Lib.hid (show Below (w5.alloc (.cells #[.int .u32 (c : Nat), .int .i64 (p : Nat), .int .i64 (s : Nat), .bool true] 24)).heap.size (w5.alloc (.cells #[.int .u32 (c : Nat), .int .i64 (p : Nat), .int .i64 (s : Nat), .bool true] 24)) w7 from by first | exact HB0.out.trans hb7 | exact (HB0.out.alloc (by simp [World.drew]) _).trans (hb7.mono (by simp [World.drew])))
       have HR := Lib.hid (HR.out.below' HBX.out)
       have HX := Lib.hid (HX.out.below' HBX.out)
       have r0 := HR.out.cell 0
       have r1 := HR.out.cell 1
       have r2 := HR.out.cell 2
       have r3 := HR.out.cell 3
       have q0 := HX.out.cell 0
       have q1 := HX.out.cell 1
       have q2 := HX.out.cell 2
       have q3 := HX.out.cell 3
       have hlR := HR.out.lt
       have hlX := HX.out.lt
       simp at r0 r1 r2 r3 q0 q1 q2 q3
       try have HY := Lib.hid ((Whole.new (w5.alloc (.cells #[.int .u32 (c : Nat), .int .i64 (p : Nat), .int .i64 (s : Nat), .bool true] 24)).drew 24 #[.int .u32 0, .int .i64 0, .int .i64 0, .bool false] rfl).below' hb7)
       try have y0 := HY.out.cell 0
       try have y1 := HY.out.cell 1
       try have y2 := HY.out.cell 2
       try have y3 := HY.out.cell 3
       try have z0 := HY.out.free 0
       try have z1 := HY.out.free 1
       try have z2 := HY.out.free 2
       try have z3 := HY.out.free 3
       try simp [World.drew] at y0 y1 y2 y3 z0 z1 z2 z3
       clear hb7))
  all_goals
    have HBZ := Lib.hid (HB6.out.trans (HBX.out.mono HB6.out.size))
    have hz6 := HB6.out.size
    go_wp2
    go_ret
    refine ⟨rfl, ?_⟩
    first
      | exact HBZ.out.alloc HBZ.out.size _
      | exact (((HBZ.out.setCell (by show W.heap.size ≤ w5.heap.size + 1; omega) _).setCell (by show W.heap.size ≤ w5.heap.size + 1; omega) _).setCell (by show W.heap.size ≤ w5.heap.size + 1; omega) _).setCell (by show W.heap.size ≤ w5.heap.size + 1; omega) _
end Go.Proofs.Ytafdflpjfdeohaa
