/- The page's Encode. -/
import Derived.Test.YtdmglpnieiiigaaDoorT3
import Derived.Test.YtdmglpnieiiigaaDoorK1
import Derived.Test.YtdmglpnieiiigaaDoorH2
import Derived.Test.YtdmglpnieiiigaaDoorStrApp
import Derived.Test.YtdmglpnieiiigaaDoorFree
import Derived.BigQuiet
namespace Go.Proofs.YtdmglpnieiiigaaDoor
open Go.RowKit

theorem lst_of {w : World} {g : Nat} {t : TypeId} {cs : Array Value} {n : Nat} (h : Whole w g t cs) (hn : cs.size = n) : Lst w (fun k => k = g) 1 (some ⟨g, 0, none⟩) n cs.toList := by
  refine ⟨by simpa using hn, fun _ => ⟨g, 0, rfl, h.lt, rfl, fun i v hi => ?_⟩⟩
  have hc := h.cell (0 + i)
  rw [hc, Nat.zero_add]
  simpa using hi
def RetB (n : Nat) (bs : List UInt8) (w : World) (e : Ending) (w' : World) : Prop := ∃ A c', e = .returned (.slice A n c') ∧ Bs w' (fun q => w.heap.size ≤ q) A n bs ∧ Below w.heap.size w w'
set_option maxRecDepth 100000 in
set_option maxHeartbeats 4000000 in
theorem crenc_slim (s : ByteArray) (y mo d h mi se : Int) (me c p z pl DT CK FL : Nat) (lt : Bool) (w : World) (hs : s.size ≤ 255) (hc : c < 4294967296) (ht : rightB y mo d h mi se = true) (hD : dateI y mo d = (DT : Nat)) (hC : clockI h mi se = (CK : Nat)) (hF : flagsH s lt = (FL : Nat)) (hD2 : DT < 65536) (hC2 : CK < 65536) (hF2 : FL < 65536) (hp : p ≤ 33554432) (hz : z ≤ 16777216) (hme : me < 65536) (hpl : pl < 4294967295) :
    Calls Tryd.prog 11 #[.agg #[.string s, .int .i64 y, .int .i64 mo, .int .i64 d, .int .i64 h, .int .i64 mi, .int .i64 se, .int .i64 (me : Nat), .int .u32 (c : Nat), .int .i64 (p : Nat), .int .i64 (z : Nat), .bool false, .bool lt], .int .i64 (pl : Nat)] w (RetB (46 + s.size) (fl 4 [33639248] ++ fl 2 [788, 20, FL, me, CK, DT] ++ fl 4 [c, p, z] ++ fl 2 [s.size, 0, 0, 0, 0] ++ fl 4 [2175008768, pl] ++ s.data.toList) w) := by
  obtain ⟨i0, hi, hz0, hz1, hz2⟩ := info_parts info5
  have HV : Hid (∀ w, Calls Tryd.prog 27 #[.agg #[.string s, .int .i64 y, .int .i64 mo, .int .i64 d, .int .i64 h, .int .i64 mi, .int .i64 se, .int .i64 (me : Nat), .int .u32 (c : Nat), .int .i64 (p : Nat), .int .i64 (z : Nat), .bool false, .bool lt]] w fun e w' => e = .returned (.int .i64 20) ∧ Below w.heap.size w w') := Lib.hid (fun w => rversion_any s y mo d h mi se me c p z false lt w)
  have HF : Hid (∀ w, Calls Tryd.prog 28 #[.agg #[.string s, .int .i64 y, .int .i64 mo, .int .i64 d, .int .i64 h, .int .i64 mi, .int .i64 se, .int .i64 (me : Nat), .int .u32 (c : Nat), .int .i64 (p : Nat), .int .i64 (z : Nat), .bool false, .bool lt]] w fun e w' => e = .returned (.int .i64 (FL : Nat)) ∧ Below w.heap.size w w') := Lib.hid (fun w => by
    have := rflags_any s y mo d h mi se me c p z false lt w (by omega)
    rwa [hF] at this)
  have HT : Hid (∀ w, Calls Tryd.prog 25 #[tm y mo d h mi se] w fun e w' => e = .returned (.tuple #[.int .i64 (DT : Nat), .int .i64 (CK : Nat)]) ∧ Below w.heap.size w w') := Lib.hid (fun w => by
    have := rencode_any y mo d h mi se w (RightT.of ht)
    rwa [hD, hC] at this)
  have kc : IntKind.u64.wrap (c : Int) = (c : Int) := IntWalk.u64_in _ (by omega)
  have kp : IntKind.u64.wrap (p : Int) = (p : Int) := IntWalk.u64_in _ (by omega)
  have kz : IntKind.u64.wrap (z : Int) = (z : Int) := IntWalk.u64_in _ (by omega)
  have kl : IntKind.u64.wrap (pl : Int) = (pl : Int) := IntWalk.u64_in _ (by omega)
  have kf : IntKind.u64.wrap (FL : Int) = (FL : Int) := IntWalk.u64_in _ (by omega)
  have km : IntKind.u64.wrap (me : Int) = (me : Int) := IntWalk.u64_in _ (by omega)
  have kk : IntKind.u64.wrap (CK : Int) = (CK : Int) := IntWalk.u64_in _ (by omega)
  have kd : IntKind.u64.wrap (DT : Int) = (DT : Int) := IntWalk.u64_in _ (by omega)
  have kn : IntKind.u64.wrap (s.size : Int) = (s.size : Int) := IntWalk.u64_in _ (by omega)
  clear ht hD hC hF
  go_enter Tryd.func11, Tryd.ntmps11
  go_wp2_with fail
  obtain ⟨w0, hw0⟩ : ∃ w0, w.alloc (.cells #[.string s, .int .i64 y, .int .i64 mo, .int .i64 d, .int .i64 h, .int .i64 mi, .int .i64 se, .int .i64 (me : Nat), .int .u32 (c : Nat), .int .i64 (p : Nat), .int .i64 (z : Nat), .bool false, .bool lt] 30) = w0 := ⟨_, rfl⟩
  rw [hw0]
  have HW0 : Hid (Below w.heap.size w w0) := Lib.hid (hw0 ▸ (Below.refl _ _).alloc (Nat.le_refl _) _)
  have HR : Hid (Whole w0 w.heap.size 30 #[.string s, .int .i64 y, .int .i64 mo, .int .i64 d, .int .i64 h, .int .i64 mi, .int .i64 se, .int .i64 (me : Nat), .int .u32 (c : Nat), .int .i64 (p : Nat), .int .i64 (z : Nat), .bool false, .bool lt]) := Lib.hid (hw0 ▸ Whole.new w 30 _ rfl)
  clear hw0
  refine (HT.out w0).mono ?_
  rintro e w1 ⟨rfl, hb1⟩
  have HB1 := Lib.hid (HW0.out.trans (hb1.mono HW0.out.size))
  have HR := Lib.hid (HR.out.below' hb1)
  clear hb1 HT HW0
  have r9 := HR.out.cell 9
  have r10 := HR.out.cell 10
  simp at r9 r10
  go_wp2_with fail
  go_quiet (fail)
  obtain ⟨w3, hw3⟩ : ∃ x, w1.drewN nq = x := ⟨_, rfl⟩
  rw [hw3]
  have HB3 : Hid (Below w.heap.size w w3) := Lib.hid (hw3 ▸ HB1.out.drewN' nq)
  have HR : Hid (Whole w3 w.heap.size 30 #[.string s, .int .i64 y, .int .i64 mo, .int .i64 d, .int .i64 h, .int .i64 mi, .int .i64 se, .int .i64 (me : Nat), .int .u32 (c : Nat), .int .i64 (p : Nat), .int .i64 (z : Nat), .bool false, .bool lt]) := Lib.hid (hw3 ▸ HR.out.drewN nq)
  have HWw3 : Hid (Below w3.heap.size w3 w3) := Lib.hid (Below.refl _ _)
  clear hw3 r9 r10 HB1
  have r11 := HR.out.cell 11
  simp at r11
  go_wp2_with fail
  refine (rputs_any 4 [33639248] _ 1 1 _ _ (by omega) (by intro x hx; simp at hx; omega) (Lst.new (size := 1) w3 58 #[.int .u64 33639248] 1 rfl (fr := (0, 0)) rfl) (by omega)).mono ?_
  rintro e' y1 ⟨Ay1, cy1, rfl, ho, hb⟩
  have HWy1 : Hid (Below w3.heap.size w3 y1) := Lib.hid ((HWw3.out.alloc HWw3.out.size (.cells #[.int .u64 33639248] 58)).trans (hb.mono (by have := HWw3.out.size; first | (simp; done) | (simp; omega))))
  have HPy1 : Hid (y1.ownsRow w3.heap.size 5 1 (.slice Ay1 4 cy1) 4 ((fl 4 [33639248]).map bv)) := Lib.hid (own_base ho (by have := HWw3.out.size; first | (simp; done) | (simp; omega)))
  clear ho hb
  have HR1 := Lib.hid (HR.out.below' HWy1.out)
  have r0 := fun mm => (HR1.out.below' (World.over_below y1 mm)).cell 0
  have r1 := fun mm => (HR1.out.below' (World.over_below y1 mm)).cell 1
  have r2 := fun mm => (HR1.out.below' (World.over_below y1 mm)).cell 2
  have r3 := fun mm => (HR1.out.below' (World.over_below y1 mm)).cell 3
  have r4 := fun mm => (HR1.out.below' (World.over_below y1 mm)).cell 4
  have r5 := fun mm => (HR1.out.below' (World.over_below y1 mm)).cell 5
  have r6 := fun mm => (HR1.out.below' (World.over_below y1 mm)).cell 6
  have r7 := fun mm => (HR1.out.below' (World.over_below y1 mm)).cell 7
  have r8 := fun mm => (HR1.out.below' (World.over_below y1 mm)).cell 8
  have r9 := fun mm => (HR1.out.below' (World.over_below y1 mm)).cell 9
  have r10 := fun mm => (HR1.out.below' (World.over_below y1 mm)).cell 10
  have r11 := fun mm => (HR1.out.below' (World.over_below y1 mm)).cell 11
  have r12 := fun mm => (HR1.out.below' (World.over_below y1 mm)).cell 12
  simp at r0 r1 r2 r3 r4 r5 r6 r7 r8 r9 r10 r11 r12
  go_wp2_with fail
  refine wp_region_free_tail2 16 [2, 5] (by kernel_rfl) (by kernel_rfl) (by kernel_rfl) (by kernel_rfl) ?_
  simp only [List.take_succ_cons, List.take_zero, List.drop_succ_cons, List.drop_zero]
  iterate 2 (first | ((with_reducible refine vfree_skip rfl ?_ ?_); (focus rfl); intro K hK; go_big_quiet_op; go_big_quiet_on) | ((with_reducible refine vfree_hard ?_ ?_ ?_); (focus rfl); (focus rfl); intro K hK; go_big_quiet_op; go_big_quiet_on))
  refine vfree_one (.int .i64 20) rfl rfl rfl (fun w' hw' => ?_) ?_
  · have hb := hw'.1.below
    go_simp
    all_goals exact (HV.out w').mono fun _ _ ⟨h1, h2⟩ => ⟨h1, h2⟩
  intro K hK
  go_big_quiet_op
  go_big_quiet_on
  iterate 2 (first | ((with_reducible refine vfree_skip rfl ?_ ?_); (focus rfl); intro K hK; go_big_quiet_op; go_big_quiet_on) | ((with_reducible refine vfree_hard ?_ ?_ ?_); (focus rfl); (focus rfl); intro K hK; go_big_quiet_op; go_big_quiet_on))
  refine vfree_one (.int .i64 (FL : Nat)) rfl rfl rfl (fun w' hw' => ?_) ?_
  · have hb := hw'.1.below
    go_simp
    all_goals exact (HF.out w').mono fun _ _ ⟨h1, h2⟩ => ⟨h1, h2⟩
  intro K hK
  go_big_quiet_op
  go_big_quiet_on
  iterate 8 (first | ((with_reducible refine vfree_skip rfl ?_ ?_); (focus rfl); intro K hK; go_big_quiet_op; go_big_quiet_on) | ((with_reducible refine vfree_hard ?_ ?_ ?_); (focus rfl); (focus rfl); intro K hK; go_big_quiet_op; go_big_quiet_on))
  refine vfree_soft (ι := Nat) (fun i => .slice (some ⟨i, 0, none⟩) 6 6) (fun i w' => y1.heap.size ≤ i ∧ Whole w' i 58 #[.int .u64 788, .int .u64 20, .int .u64 (FL : Nat), .int .u64 (me : Nat), .int .u64 (CK : Nat), .int .u64 (DT : Nat)]) rfl rfl rfl (fun _ => fun _ _ h he => ⟨h.1, h.2.below' he⟩) (fun w' hw' => ?_) (fun T => ?_)
  · have hb := hw'.1.below
    clear hw'
    go_simp
    exact ⟨(Below.refl _ _).alloc (Nat.le_refl _) _, w'.heap.size, rfl, hb.size, Whole.new w' 58 _ rfl⟩
  intro K hK
  go_big_quiet_op
  go_big_quiet_on
  refine vfree_soft (ι := Option Addr × Nat) (fun i => .slice i.1 (12) i.2) (fun i w' => Bs w' (fun b => y1.heap.size ≤ b) i.1 (12) (fl 2 [788, 20, FL, me, CK, DT])) rfl rfl rfl (fun _ => firm_bs) (fun w' hw' => ?_) (fun i => ?_)
  · have hb := hw'.1.below
    have hT := (hw'.2 14 (by kernel_rfl)).1.2
    go_simp
    refine (rputs_any 2 [788, 20, FL, me, CK, DT] _ 6 6 _ w' (by omega) (by intro x hx; simp at hx; omega) (lst_of hT rfl) (by omega)).mono ?_
    rintro e w2 ⟨A', c', rfl, ho, hb2⟩
    exact ⟨hb2, (A', c'), rfl, (Bs.of_own ho).mono fun b h => by have := hb.size; omega⟩
  obtain ⟨Ay3, cy3⟩ := i
  dsimp only
  intro K hK
  go_big_quiet_op
  go_big_quiet_on
  refine vfree_nil ?_
  intro y2 hb4 hk4
  have HWy2 := Lib.hid (HWy1.out.trans (hb4.mono HWy1.out.size))
  have HPy1 := Lib.hid (own_below HPy1.out hb4)
  have HPB : Hid (Bs y2 (fun b => y1.heap.size ≤ b) Ay3 12 (fl 2 [788, 20, FL, me, CK, DT])) := Lib.hid (by have h := hk4 15; simpa [upd] using h)
  clear hk4 hb4 HR1 r0 r1 r2 r3 r4 r5 r6 r7 r8 r9 r10 r11 r12
  go_wp2_with (at_builtin; refine wpList_append_list _ rfl (.tmp 38) (.tmp 53) 33 rfl w3.heap.size 5 i0 (.int .u8 0) 1 1 Tryd.underlying33 hi hz0 hz1 hz2 rfl (by decide) _ (4) _ rfl HPy1.out _ Ay3 (12) cy3 _ rfl HPB.out oneCell_bytes (by unfold maxLen; omega) (by omega) HWy2.out.size ?_)
  intro Ay4 cy4 y4 hown hgrow hat
  have HOy4 : Hid (y4.ownsRow w3.heap.size 5 1 (.slice Ay4 (16) cy4) (16) ((fl 4 [33639248] ++ fl 2 [788, 20, FL, me, CK, DT]).map bv)) := Lib.hid (by
    simp only [List.map_append] at hown ⊢
    exact hown)
  have HWy4 := Lib.hid (HWy2.out.grown hgrow HWy2.out.size (fun g e => (HPy1.out.lt g e).1))
  clear hown hgrow hat
  clear HPy1 HPB
  have q8 := (HR.out.below' HWy4.out).cell 8
  simp at q8
  go_wp2_with fail
  refine (rputs_any 4 [c, p, z] _ 3 3 _ _ (by omega) (by intro x hx; simp at hx; omega) (Lst.new (size := 1) y4 58 #[.int .u64 (c : Nat), .int .u64 (p : Nat), .int .u64 (z : Nat)] 3 rfl (fr := (0, 0)) rfl) (by omega)).mono ?_
  rintro e' y5 ⟨Ay5, cy5, rfl, ho, hb⟩
  have HWy5 : Hid (Below w3.heap.size w3 y5) := Lib.hid ((HWy4.out.alloc HWy4.out.size (.cells #[.int .u64 (c : Nat), .int .u64 (p : Nat), .int .u64 (z : Nat)] 58)).trans (hb.mono (by have := HWy4.out.size; first | (simp; done) | (simp; omega))))
  have HPy5 : Hid (y5.ownsRow w3.heap.size 5 1 (.slice Ay5 12 cy5) 12 ((fl 4 [c, p, z]).map bv)) := Lib.hid (own_base ho (by have := HWy4.out.size; first | (simp; done) | (simp; omega)))
  have HOy4 := Lib.hid (own_below (World.ownsRow.alloc HOy4.out (.cells #[.int .u64 (c : Nat), .int .u64 (p : Nat), .int .u64 (z : Nat)] 58)) hb)
  clear ho hb
  go_wp2_with (at_builtin; refine wpList_append_list _ rfl (.tmp 55) (.tmp 62) 33 rfl w3.heap.size 5 i0 (.int .u8 0) 1 1 Tryd.underlying33 hi hz0 hz1 hz2 rfl (by decide) _ (16) _ rfl HOy4.out _ Ay5 (12) cy5 _ rfl (Lst.of_own HPy5.out) oneCell_bytes (by unfold maxLen; omega) (by omega) HWy5.out.size ?_)
  intro Ay6 cy6 y6 hown hgrow hat
  have HOy6 : Hid (y6.ownsRow w3.heap.size 5 1 (.slice Ay6 (28) cy6) (28) ((fl 4 [33639248] ++ fl 2 [788, 20, FL, me, CK, DT] ++ fl 4 [c, p, z]).map bv)) := Lib.hid (by
    simp only [List.map_append, List.append_assoc] at hown ⊢
    exact hown)
  have HWy6 := Lib.hid (HWy5.out.grown hgrow HWy5.out.size (fun g e => (HOy4.out.lt g e).1))
  clear hown hgrow hat
  clear HOy4 HPy5 q8
  have r0 := (HR.out.below' HWy6.out).cell 0
  simp at r0
  go_wp2_with fail
  refine (rputs_any 2 [s.size, 0, 0, 0, 0] _ 5 5 _ _ (by omega) (by intro x hx; simp at hx; omega) (Lst.new (size := 1) y6 58 #[.int .u64 (s.size : Nat), .int .u64 0, .int .u64 0, .int .u64 0, .int .u64 0] 5 rfl (fr := (0, 0)) rfl) (by omega)).mono ?_
  rintro e' y7 ⟨Ay7, cy7, rfl, ho, hb⟩
  have HWy7 : Hid (Below w3.heap.size w3 y7) := Lib.hid ((HWy6.out.alloc HWy6.out.size (.cells #[.int .u64 (s.size : Nat), .int .u64 0, .int .u64 0, .int .u64 0, .int .u64 0] 58)).trans (hb.mono (by have := HWy6.out.size; first | (simp; done) | (simp; omega))))
  have HPy7 : Hid (y7.ownsRow w3.heap.size 5 1 (.slice Ay7 10 cy7) 10 ((fl 2 [s.size, 0, 0, 0, 0]).map bv)) := Lib.hid (own_base ho (by have := HWy6.out.size; first | (simp; done) | (simp; omega)))
  have HOy6 := Lib.hid (own_below (World.ownsRow.alloc HOy6.out (.cells #[.int .u64 (s.size : Nat), .int .u64 0, .int .u64 0, .int .u64 0, .int .u64 0] 58)) hb)
  clear ho hb
  go_wp2_with (at_builtin; refine wpList_append_list _ rfl (.tmp 64) (.tmp 73) 33 rfl w3.heap.size 5 i0 (.int .u8 0) 1 1 Tryd.underlying33 hi hz0 hz1 hz2 rfl (by decide) _ (28) _ rfl HOy6.out _ Ay7 (10) cy7 _ rfl (Lst.of_own HPy7.out) oneCell_bytes (by unfold maxLen; omega) (by omega) HWy7.out.size ?_)
  intro Ay8 cy8 y8 hown hgrow hat
  have HOy8 : Hid (y8.ownsRow w3.heap.size 5 1 (.slice Ay8 (38) cy8) (38) ((fl 4 [33639248] ++ fl 2 [788, 20, FL, me, CK, DT] ++ fl 4 [c, p, z] ++ fl 2 [s.size, 0, 0, 0, 0]).map bv)) := Lib.hid (by
    simp only [List.map_append, List.append_assoc] at hown ⊢
    exact hown)
  have HWy8 := Lib.hid (HWy7.out.grown hgrow HWy7.out.size (fun g e => (HOy6.out.lt g e).1))
  clear hown hgrow hat
  clear HOy6 HPy7 r0
  go_wp2_with fail
  refine (rputs_any 4 [2175008768, pl] _ 2 2 _ _ (by omega) (by intro x hx; simp at hx; omega) (Lst.new (size := 1) y8 58 #[.int .u64 2175008768, .int .u64 (pl : Nat)] 2 rfl (fr := (0, 0)) rfl) (by omega)).mono ?_
  rintro e' y9 ⟨Ay9, cy9, rfl, ho, hb⟩
  have HWy9 : Hid (Below w3.heap.size w3 y9) := Lib.hid ((HWy8.out.alloc HWy8.out.size (.cells #[.int .u64 2175008768, .int .u64 (pl : Nat)] 58)).trans (hb.mono (by have := HWy8.out.size; first | (simp; done) | (simp; omega))))
  have HPy9 : Hid (y9.ownsRow w3.heap.size 5 1 (.slice Ay9 8 cy9) 8 ((fl 4 [2175008768, pl]).map bv)) := Lib.hid (own_base ho (by have := HWy8.out.size; first | (simp; done) | (simp; omega)))
  have HOy8 := Lib.hid (own_below (World.ownsRow.alloc HOy8.out (.cells #[.int .u64 2175008768, .int .u64 (pl : Nat)] 58)) hb)
  clear ho hb
  go_wp2_with (at_builtin; refine wpList_append_list _ rfl (.tmp 75) (.tmp 78) 33 rfl w3.heap.size 5 i0 (.int .u8 0) 1 1 Tryd.underlying33 hi hz0 hz1 hz2 rfl (by decide) _ (38) _ rfl HOy8.out _ Ay9 (8) cy9 _ rfl (Lst.of_own HPy9.out) oneCell_bytes (by unfold maxLen; omega) (by omega) HWy9.out.size ?_)
  intro Av1 cv1 v1 hown hgrow hat
  have HOv1 : Hid (v1.ownsRow w3.heap.size 5 1 (.slice Av1 (46) cv1) (46) ((fl 4 [33639248] ++ fl 2 [788, 20, FL, me, CK, DT] ++ fl 4 [c, p, z] ++ fl 2 [s.size, 0, 0, 0, 0] ++ fl 4 [2175008768, pl]).map bv)) := Lib.hid (by
    simp only [List.map_append, List.append_assoc] at hown ⊢
    exact hown)
  have HWv1 := Lib.hid (HWy9.out.grown hgrow HWy9.out.size (fun g e => (HOy8.out.lt g e).1))
  clear hown hgrow hat
  clear HOy8 HPy9
  have r0 := (HR.out.below' HWv1.out).cell 0
  simp at r0
  go_wp2_with (at_builtin; refine wpList_append_str _ rfl (.tmp 80) (.tmp 82) 33 9 rfl w3.heap.size 5 i0 (.int .u8 0) Tryd.underlying33 Tryd.underlying9 hi hz0 hz1 hz2 rfl (.slice Av1 46 cv1) 46 _ rfl HOv1.out s rfl (by unfold maxLen; omega) (by omega) HWv1.out.size ?_)
  intro A9 c9 v9 hown hgrow hat
  obtain ⟨M, hM⟩ : ∃ M, 46 + s.size = M := ⟨_, rfl⟩
  have HO9 : Hid (v9.ownsRow w3.heap.size 5 1 (.slice A9 M c9) M ((fl 4 [33639248] ++ fl 2 [788, 20, FL, me, CK, DT] ++ fl 4 [c, p, z] ++ fl 2 [s.size, 0, 0, 0, 0] ++ fl 4 [2175008768, pl] ++ s.data.toList).map bv)) := Lib.hid (by
    simp only [List.map_append, List.append_assoc, hM] at hown ⊢
    exact hown)
  have HW9 := Lib.hid (HWv1.out.grown hgrow HWv1.out.size (fun g e => (HOv1.out.lt g e).1))
  have hMb : M ≤ 301 := by omega
  have HMM := Lib.hid hM
  rw [hM]
  clear hown hgrow hat hM HOv1 r0
  go_wp2_with (at_builtin; refine wpList_append_list _ rfl (.tmp 83) (.tmp 84) 33 rfl w3.heap.size 5 i0 (.int .u8 0) 1 1 Tryd.underlying33 hi hz0 hz1 hz2 rfl (by decide) _ M _ rfl HO9.out (fun _ => True) none 0 0 [] rfl (Lst.empty _ _ _ _) (by simp) (by unfold maxLen; omega) (by omega) HW9.out.size ?_)
  intro A10 c10 z1 hown hgrow hat
  have HO10 : Hid (z1.ownsRow w3.heap.size 5 1 (.slice A10 M c10) M ((fl 4 [33639248] ++ fl 2 [788, 20, FL, me, CK, DT] ++ fl 4 [c, p, z] ++ fl 2 [s.size, 0, 0, 0, 0] ++ fl 4 [2175008768, pl] ++ s.data.toList).map bv)) := Lib.hid (by
    first | exact hown | simpa using hown)
  have HW10 := Lib.hid (HW9.out.grown hgrow HW9.out.size (fun g e => (HO9.out.lt g e).1))
  clear hown hgrow hat
  go_wp2
  go_ret
  refine ⟨A10, c10, ?_, ?_, HB3.out.trans (HW10.out.mono HB3.out.size)⟩
  · rw [HMM.out]; rfl
  · rw [HMM.out]
    exact (Bs.of_own HO10.out).mono fun b h => Nat.le_trans HB3.out.size h
set_option maxRecDepth 100000 in
set_option maxHeartbeats 4000000 in
theorem crenc_wide (s : ByteArray) (y mo d h mi se : Int) (me c p z pl DT CK FL : Nat) (lt : Bool) (w : World) (hs : s.size ≤ 255) (hc : c < 4294967296) (ht : rightB y mo d h mi se = true) (hD : dateI y mo d = (DT : Nat)) (hC : clockI h mi se = (CK : Nat)) (hF : flagsH s lt = (FL : Nat)) (hD2 : DT < 65536) (hC2 : CK < 65536) (hF2 : FL < 65536) (hp : p ≤ 33554432) (hz : z ≤ 16777216) (hme : me < 65536) (hpl : pl < 4294967295) :
    Calls Tryd.prog 11 #[.agg #[.string s, .int .i64 y, .int .i64 mo, .int .i64 d, .int .i64 h, .int .i64 mi, .int .i64 se, .int .i64 (me : Nat), .int .u32 (c : Nat), .int .i64 (p : Nat), .int .i64 (z : Nat), .bool true, .bool lt], .int .i64 (pl : Nat)] w (RetB (74 + s.size) (fl 4 [33639248] ++ fl 2 [788, 45, FL, me, CK, DT] ++ fl 4 [c, 4294967295, 4294967295] ++ fl 2 [s.size, 28, 0, 0, 0] ++ fl 4 [2175008768, 4294967295] ++ s.data.toList ++ (fl 2 [1, 24] ++ fl 8 [z, p, pl])) w) := by
  obtain ⟨i0, hi, hz0, hz1, hz2⟩ := info_parts info5
  have HV : Hid (∀ w, Calls Tryd.prog 27 #[.agg #[.string s, .int .i64 y, .int .i64 mo, .int .i64 d, .int .i64 h, .int .i64 mi, .int .i64 se, .int .i64 (me : Nat), .int .u32 (c : Nat), .int .i64 (p : Nat), .int .i64 (z : Nat), .bool true, .bool lt]] w fun e w' => e = .returned (.int .i64 45) ∧ Below w.heap.size w w') := Lib.hid (fun w => rversion_any s y mo d h mi se me c p z true lt w)
  have HF : Hid (∀ w, Calls Tryd.prog 28 #[.agg #[.string s, .int .i64 y, .int .i64 mo, .int .i64 d, .int .i64 h, .int .i64 mi, .int .i64 se, .int .i64 (me : Nat), .int .u32 (c : Nat), .int .i64 (p : Nat), .int .i64 (z : Nat), .bool true, .bool lt]] w fun e w' => e = .returned (.int .i64 (FL : Nat)) ∧ Below w.heap.size w w') := Lib.hid (fun w => by
    have := rflags_any s y mo d h mi se me c p z true lt w (by omega)
    rwa [hF] at this)
  have HT : Hid (∀ w, Calls Tryd.prog 25 #[tm y mo d h mi se] w fun e w' => e = .returned (.tuple #[.int .i64 (DT : Nat), .int .i64 (CK : Nat)]) ∧ Below w.heap.size w w') := Lib.hid (fun w => by
    have := rencode_any y mo d h mi se w (RightT.of ht)
    rwa [hD, hC] at this)
  have kc : IntKind.u64.wrap (c : Int) = (c : Int) := IntWalk.u64_in _ (by omega)
  have kp : IntKind.u64.wrap (p : Int) = (p : Int) := IntWalk.u64_in _ (by omega)
  have kz : IntKind.u64.wrap (z : Int) = (z : Int) := IntWalk.u64_in _ (by omega)
  have kl : IntKind.u64.wrap (pl : Int) = (pl : Int) := IntWalk.u64_in _ (by omega)
  have kf : IntKind.u64.wrap (FL : Int) = (FL : Int) := IntWalk.u64_in _ (by omega)
  have km : IntKind.u64.wrap (me : Int) = (me : Int) := IntWalk.u64_in _ (by omega)
  have kk : IntKind.u64.wrap (CK : Int) = (CK : Int) := IntWalk.u64_in _ (by omega)
  have kd : IntKind.u64.wrap (DT : Int) = (DT : Int) := IntWalk.u64_in _ (by omega)
  have kn : IntKind.u64.wrap (s.size : Int) = (s.size : Int) := IntWalk.u64_in _ (by omega)
  clear ht hD hC hF
  go_enter Tryd.func11, Tryd.ntmps11
  go_wp2_with fail
  obtain ⟨w0, hw0⟩ : ∃ w0, w.alloc (.cells #[.string s, .int .i64 y, .int .i64 mo, .int .i64 d, .int .i64 h, .int .i64 mi, .int .i64 se, .int .i64 (me : Nat), .int .u32 (c : Nat), .int .i64 (p : Nat), .int .i64 (z : Nat), .bool true, .bool lt] 30) = w0 := ⟨_, rfl⟩
  rw [hw0]
  have HW0 : Hid (Below w.heap.size w w0) := Lib.hid (hw0 ▸ (Below.refl _ _).alloc (Nat.le_refl _) _)
  have HR : Hid (Whole w0 w.heap.size 30 #[.string s, .int .i64 y, .int .i64 mo, .int .i64 d, .int .i64 h, .int .i64 mi, .int .i64 se, .int .i64 (me : Nat), .int .u32 (c : Nat), .int .i64 (p : Nat), .int .i64 (z : Nat), .bool true, .bool lt]) := Lib.hid (hw0 ▸ Whole.new w 30 _ rfl)
  clear hw0
  refine (HT.out w0).mono ?_
  rintro e w1 ⟨rfl, hb1⟩
  have HB1 := Lib.hid (HW0.out.trans (hb1.mono HW0.out.size))
  have HR := Lib.hid (HR.out.below' hb1)
  clear hb1 HT HW0
  have r9 := HR.out.cell 9
  have r10 := HR.out.cell 10
  simp at r9 r10
  go_wp2_with fail
  go_quiet (fail)
  obtain ⟨w3, hw3⟩ : ∃ x, w1.drewN nq = x := ⟨_, rfl⟩
  rw [hw3]
  have HB3 : Hid (Below w.heap.size w w3) := Lib.hid (hw3 ▸ HB1.out.drewN' nq)
  have HR : Hid (Whole w3 w.heap.size 30 #[.string s, .int .i64 y, .int .i64 mo, .int .i64 d, .int .i64 h, .int .i64 mi, .int .i64 se, .int .i64 (me : Nat), .int .u32 (c : Nat), .int .i64 (p : Nat), .int .i64 (z : Nat), .bool true, .bool lt]) := Lib.hid (hw3 ▸ HR.out.drewN nq)
  have HWw3 : Hid (Below w3.heap.size w3 w3) := Lib.hid (Below.refl _ _)
  clear hw3 r9 r10 HB1
  have r11 := HR.out.cell 11
  simp at r11
  go_wp2_with fail
  refine (rputs_any 2 [1, 24] _ 2 2 _ _ (by omega) (by intro x hx; simp at hx; omega) (Lst.new (size := 1) w3 58 #[.int .u64 1, .int .u64 24] 2 rfl (fr := (0, 0)) rfl) (by omega)).mono ?_
  rintro e' x1 ⟨Ax1, cx1, rfl, ho, hb⟩
  have HWx1 : Hid (Below w3.heap.size w3 x1) := Lib.hid ((HWw3.out.alloc HWw3.out.size (.cells #[.int .u64 1, .int .u64 24] 58)).trans (hb.mono (by have := HWw3.out.size; first | (simp; done) | (simp; omega))))
  have HPx1 : Hid (x1.ownsRow w3.heap.size 5 1 (.slice Ax1 4 cx1) 4 ((fl 2 [1, 24]).map bv)) := Lib.hid (own_base ho (by have := HWw3.out.size; first | (simp; done) | (simp; omega)))
  clear ho hb
  go_wp2_with fail
  refine (rputs_any 8 [z, p, pl] _ 3 3 _ _ (by omega) (by intro x hx; simp at hx; omega) (Lst.new (size := 1) x1 58 #[.int .u64 (z : Nat), .int .u64 (p : Nat), .int .u64 (pl : Nat)] 3 rfl (fr := (0, 0)) rfl) (by omega)).mono ?_
  rintro e' x2 ⟨Ax2, cx2, rfl, ho, hb⟩
  have HWx2 : Hid (Below w3.heap.size w3 x2) := Lib.hid ((HWx1.out.alloc HWx1.out.size (.cells #[.int .u64 (z : Nat), .int .u64 (p : Nat), .int .u64 (pl : Nat)] 58)).trans (hb.mono (by have := HWx1.out.size; first | (simp; done) | (simp; omega))))
  have HPx2 : Hid (x2.ownsRow w3.heap.size 5 1 (.slice Ax2 24 cx2) 24 ((fl 8 [z, p, pl]).map bv)) := Lib.hid (own_base ho (by have := HWx1.out.size; first | (simp; done) | (simp; omega)))
  have HPx1 := Lib.hid (own_below (World.ownsRow.alloc HPx1.out (.cells #[.int .u64 (z : Nat), .int .u64 (p : Nat), .int .u64 (pl : Nat)] 58)) hb)
  clear ho hb
  go_wp2_with (at_builtin; refine wpList_append_list _ rfl (.tmp 29) (.tmp 34) 33 rfl w3.heap.size 5 i0 (.int .u8 0) 1 1 Tryd.underlying33 hi hz0 hz1 hz2 rfl (by decide) _ (4) _ rfl HPx1.out _ Ax2 (24) cx2 _ rfl (Lst.of_own HPx2.out) oneCell_bytes (by unfold maxLen; omega) (by omega) HWx2.out.size ?_)
  intro Ax3 cx3 x3 hown hgrow hat
  have HOx3 : Hid (x3.ownsRow w3.heap.size 5 1 (.slice Ax3 (28) cx3) (28) ((fl 2 [1, 24] ++ fl 8 [z, p, pl]).map bv)) := Lib.hid (by
    simp only [List.map_append] at hown ⊢
    exact hown)
  have HWx3 := Lib.hid (HWx2.out.grown hgrow HWx2.out.size (fun g e => (HPx1.out.lt g e).1))
  clear hown hgrow hat
  have HE8 : Hid (Bs x3 (fun q => w3.heap.size ≤ q) Ax3 28 (fl 2 [1, 24] ++ fl 8 [z, p, pl])) := Lib.hid (Bs.of_own HOx3.out)
  have HB3 := Lib.hid (HB3.out.trans (HWx3.out.mono HB3.out.size))
  have HR := Lib.hid (HR.out.below' HWx3.out)
  clear HPx1 HPx2 HOx3 HWx1 HWx2 HWx3 r11
  have HWx3 : Hid (Below x3.heap.size x3 x3) := Lib.hid (Below.refl _ _)
  go_wp2_with fail
  refine (rputs_any 4 [33639248] _ 1 1 _ _ (by omega) (by intro x hx; simp at hx; omega) (Lst.new (size := 1) x3 58 #[.int .u64 33639248] 1 rfl (fr := (0, 0)) rfl) (by omega)).mono ?_
  rintro e' y1 ⟨Ay1, cy1, rfl, ho, hb⟩
  have HWy1 : Hid (Below x3.heap.size x3 y1) := Lib.hid ((HWx3.out.alloc HWx3.out.size (.cells #[.int .u64 33639248] 58)).trans (hb.mono (by have := HWx3.out.size; first | (simp; done) | (simp; omega))))
  have HPy1 : Hid (y1.ownsRow x3.heap.size 5 1 (.slice Ay1 4 cy1) 4 ((fl 4 [33639248]).map bv)) := Lib.hid (own_base ho (by have := HWx3.out.size; first | (simp; done) | (simp; omega)))
  clear ho hb
  have HR1 := Lib.hid (HR.out.below' HWy1.out)
  have r0 := fun mm => (HR1.out.below' (World.over_below y1 mm)).cell 0
  have r1 := fun mm => (HR1.out.below' (World.over_below y1 mm)).cell 1
  have r2 := fun mm => (HR1.out.below' (World.over_below y1 mm)).cell 2
  have r3 := fun mm => (HR1.out.below' (World.over_below y1 mm)).cell 3
  have r4 := fun mm => (HR1.out.below' (World.over_below y1 mm)).cell 4
  have r5 := fun mm => (HR1.out.below' (World.over_below y1 mm)).cell 5
  have r6 := fun mm => (HR1.out.below' (World.over_below y1 mm)).cell 6
  have r7 := fun mm => (HR1.out.below' (World.over_below y1 mm)).cell 7
  have r8 := fun mm => (HR1.out.below' (World.over_below y1 mm)).cell 8
  have r9 := fun mm => (HR1.out.below' (World.over_below y1 mm)).cell 9
  have r10 := fun mm => (HR1.out.below' (World.over_below y1 mm)).cell 10
  have r11 := fun mm => (HR1.out.below' (World.over_below y1 mm)).cell 11
  have r12 := fun mm => (HR1.out.below' (World.over_below y1 mm)).cell 12
  simp at r0 r1 r2 r3 r4 r5 r6 r7 r8 r9 r10 r11 r12
  go_wp2_with fail
  refine wp_region_free_tail2 16 [2, 5] (by kernel_rfl) (by kernel_rfl) (by kernel_rfl) (by kernel_rfl) ?_
  simp only [List.take_succ_cons, List.take_zero, List.drop_succ_cons, List.drop_zero]
  iterate 2 (first | ((with_reducible refine vfree_skip rfl ?_ ?_); (focus rfl); intro K hK; go_big_quiet_op; go_big_quiet_on) | ((with_reducible refine vfree_hard ?_ ?_ ?_); (focus rfl); (focus rfl); intro K hK; go_big_quiet_op; go_big_quiet_on))
  refine vfree_one (.int .i64 45) rfl rfl rfl (fun w' hw' => ?_) ?_
  · have hb := hw'.1.below
    go_simp
    all_goals exact (HV.out w').mono fun _ _ ⟨h1, h2⟩ => ⟨h1, h2⟩
  intro K hK
  go_big_quiet_op
  go_big_quiet_on
  iterate 2 (first | ((with_reducible refine vfree_skip rfl ?_ ?_); (focus rfl); intro K hK; go_big_quiet_op; go_big_quiet_on) | ((with_reducible refine vfree_hard ?_ ?_ ?_); (focus rfl); (focus rfl); intro K hK; go_big_quiet_op; go_big_quiet_on))
  refine vfree_one (.int .i64 (FL : Nat)) rfl rfl rfl (fun w' hw' => ?_) ?_
  · have hb := hw'.1.below
    go_simp
    all_goals exact (HF.out w').mono fun _ _ ⟨h1, h2⟩ => ⟨h1, h2⟩
  intro K hK
  go_big_quiet_op
  go_big_quiet_on
  iterate 8 (first | ((with_reducible refine vfree_skip rfl ?_ ?_); (focus rfl); intro K hK; go_big_quiet_op; go_big_quiet_on) | ((with_reducible refine vfree_hard ?_ ?_ ?_); (focus rfl); (focus rfl); intro K hK; go_big_quiet_op; go_big_quiet_on))
  refine vfree_soft (ι := Nat) (fun i => .slice (some ⟨i, 0, none⟩) 6 6) (fun i w' => y1.heap.size ≤ i ∧ Whole w' i 58 #[.int .u64 788, .int .u64 45, .int .u64 (FL : Nat), .int .u64 (me : Nat), .int .u64 (CK : Nat), .int .u64 (DT : Nat)]) rfl rfl rfl (fun _ => fun _ _ h he => ⟨h.1, h.2.below' he⟩) (fun w' hw' => ?_) (fun T => ?_)
  · have hb := hw'.1.below
    clear hw'
    go_simp
    exact ⟨(Below.refl _ _).alloc (Nat.le_refl _) _, w'.heap.size, rfl, hb.size, Whole.new w' 58 _ rfl⟩
  intro K hK
  go_big_quiet_op
  go_big_quiet_on
  refine vfree_soft (ι := Option Addr × Nat) (fun i => .slice i.1 (12) i.2) (fun i w' => Bs w' (fun b => y1.heap.size ≤ b) i.1 (12) (fl 2 [788, 45, FL, me, CK, DT])) rfl rfl rfl (fun _ => firm_bs) (fun w' hw' => ?_) (fun i => ?_)
  · have hb := hw'.1.below
    have hT := (hw'.2 14 (by kernel_rfl)).1.2
    go_simp
    refine (rputs_any 2 [788, 45, FL, me, CK, DT] _ 6 6 _ w' (by omega) (by intro x hx; simp at hx; omega) (lst_of hT rfl) (by omega)).mono ?_
    rintro e w2 ⟨A', c', rfl, ho, hb2⟩
    exact ⟨hb2, (A', c'), rfl, (Bs.of_own ho).mono fun b h => by have := hb.size; omega⟩
  obtain ⟨Ay3, cy3⟩ := i
  dsimp only
  intro K hK
  go_big_quiet_op
  go_big_quiet_on
  refine vfree_nil ?_
  intro y2 hb4 hk4
  have HWy2 := Lib.hid (HWy1.out.trans (hb4.mono HWy1.out.size))
  have HPy1 := Lib.hid (own_below HPy1.out hb4)
  have HPB : Hid (Bs y2 (fun b => y1.heap.size ≤ b) Ay3 12 (fl 2 [788, 45, FL, me, CK, DT])) := Lib.hid (by have h := hk4 15; simpa [upd] using h)
  clear hk4 hb4 HR1 r0 r1 r2 r3 r4 r5 r6 r7 r8 r9 r10 r11 r12
  go_wp2_with (at_builtin; refine wpList_append_list _ rfl (.tmp 38) (.tmp 53) 33 rfl x3.heap.size 5 i0 (.int .u8 0) 1 1 Tryd.underlying33 hi hz0 hz1 hz2 rfl (by decide) _ (4) _ rfl HPy1.out _ Ay3 (12) cy3 _ rfl HPB.out oneCell_bytes (by unfold maxLen; omega) (by omega) HWy2.out.size ?_)
  intro Ay4 cy4 y4 hown hgrow hat
  have HOy4 : Hid (y4.ownsRow x3.heap.size 5 1 (.slice Ay4 (16) cy4) (16) ((fl 4 [33639248] ++ fl 2 [788, 45, FL, me, CK, DT]).map bv)) := Lib.hid (by
    simp only [List.map_append] at hown ⊢
    exact hown)
  have HWy4 := Lib.hid (HWy2.out.grown hgrow HWy2.out.size (fun g e => (HPy1.out.lt g e).1))
  clear hown hgrow hat
  clear HPy1 HPB
  have q8 := (HR.out.below' HWy4.out).cell 8
  simp at q8
  go_wp2_with fail
  refine (rputs_any 4 [c, 4294967295, 4294967295] _ 3 3 _ _ (by omega) (by intro x hx; simp at hx; omega) (Lst.new (size := 1) y4 58 #[.int .u64 (c : Nat), .int .u64 4294967295, .int .u64 4294967295] 3 rfl (fr := (0, 0)) rfl) (by omega)).mono ?_
  rintro e' y5 ⟨Ay5, cy5, rfl, ho, hb⟩
  have HWy5 : Hid (Below x3.heap.size x3 y5) := Lib.hid ((HWy4.out.alloc HWy4.out.size (.cells #[.int .u64 (c : Nat), .int .u64 4294967295, .int .u64 4294967295] 58)).trans (hb.mono (by have := HWy4.out.size; first | (simp; done) | (simp; omega))))
  have HPy5 : Hid (y5.ownsRow x3.heap.size 5 1 (.slice Ay5 12 cy5) 12 ((fl 4 [c, 4294967295, 4294967295]).map bv)) := Lib.hid (own_base ho (by have := HWy4.out.size; first | (simp; done) | (simp; omega)))
  have HOy4 := Lib.hid (own_below (World.ownsRow.alloc HOy4.out (.cells #[.int .u64 (c : Nat), .int .u64 4294967295, .int .u64 4294967295] 58)) hb)
  clear ho hb
  go_wp2_with (at_builtin; refine wpList_append_list _ rfl (.tmp 55) (.tmp 62) 33 rfl x3.heap.size 5 i0 (.int .u8 0) 1 1 Tryd.underlying33 hi hz0 hz1 hz2 rfl (by decide) _ (16) _ rfl HOy4.out _ Ay5 (12) cy5 _ rfl (Lst.of_own HPy5.out) oneCell_bytes (by unfold maxLen; omega) (by omega) HWy5.out.size ?_)
  intro Ay6 cy6 y6 hown hgrow hat
  have HOy6 : Hid (y6.ownsRow x3.heap.size 5 1 (.slice Ay6 (28) cy6) (28) ((fl 4 [33639248] ++ fl 2 [788, 45, FL, me, CK, DT] ++ fl 4 [c, 4294967295, 4294967295]).map bv)) := Lib.hid (by
    simp only [List.map_append, List.append_assoc] at hown ⊢
    exact hown)
  have HWy6 := Lib.hid (HWy5.out.grown hgrow HWy5.out.size (fun g e => (HOy4.out.lt g e).1))
  clear hown hgrow hat
  clear HOy4 HPy5 q8
  have r0 := (HR.out.below' HWy6.out).cell 0
  simp at r0
  go_wp2_with fail
  refine (rputs_any 2 [s.size, 28, 0, 0, 0] _ 5 5 _ _ (by omega) (by intro x hx; simp at hx; omega) (Lst.new (size := 1) y6 58 #[.int .u64 (s.size : Nat), .int .u64 28, .int .u64 0, .int .u64 0, .int .u64 0] 5 rfl (fr := (0, 0)) rfl) (by omega)).mono ?_
  rintro e' y7 ⟨Ay7, cy7, rfl, ho, hb⟩
  have HWy7 : Hid (Below x3.heap.size x3 y7) := Lib.hid ((HWy6.out.alloc HWy6.out.size (.cells #[.int .u64 (s.size : Nat), .int .u64 28, .int .u64 0, .int .u64 0, .int .u64 0] 58)).trans (hb.mono (by have := HWy6.out.size; first | (simp; done) | (simp; omega))))
  have HPy7 : Hid (y7.ownsRow x3.heap.size 5 1 (.slice Ay7 10 cy7) 10 ((fl 2 [s.size, 28, 0, 0, 0]).map bv)) := Lib.hid (own_base ho (by have := HWy6.out.size; first | (simp; done) | (simp; omega)))
  have HOy6 := Lib.hid (own_below (World.ownsRow.alloc HOy6.out (.cells #[.int .u64 (s.size : Nat), .int .u64 28, .int .u64 0, .int .u64 0, .int .u64 0] 58)) hb)
  clear ho hb
  go_wp2_with (at_builtin; refine wpList_append_list _ rfl (.tmp 64) (.tmp 73) 33 rfl x3.heap.size 5 i0 (.int .u8 0) 1 1 Tryd.underlying33 hi hz0 hz1 hz2 rfl (by decide) _ (28) _ rfl HOy6.out _ Ay7 (10) cy7 _ rfl (Lst.of_own HPy7.out) oneCell_bytes (by unfold maxLen; omega) (by omega) HWy7.out.size ?_)
  intro Ay8 cy8 y8 hown hgrow hat
  have HOy8 : Hid (y8.ownsRow x3.heap.size 5 1 (.slice Ay8 (38) cy8) (38) ((fl 4 [33639248] ++ fl 2 [788, 45, FL, me, CK, DT] ++ fl 4 [c, 4294967295, 4294967295] ++ fl 2 [s.size, 28, 0, 0, 0]).map bv)) := Lib.hid (by
    simp only [List.map_append, List.append_assoc] at hown ⊢
    exact hown)
  have HWy8 := Lib.hid (HWy7.out.grown hgrow HWy7.out.size (fun g e => (HOy6.out.lt g e).1))
  clear hown hgrow hat
  clear HOy6 HPy7 r0
  go_wp2_with fail
  refine (rputs_any 4 [2175008768, 4294967295] _ 2 2 _ _ (by omega) (by intro x hx; simp at hx; omega) (Lst.new (size := 1) y8 58 #[.int .u64 2175008768, .int .u64 4294967295] 2 rfl (fr := (0, 0)) rfl) (by omega)).mono ?_
  rintro e' y9 ⟨Ay9, cy9, rfl, ho, hb⟩
  have HWy9 : Hid (Below x3.heap.size x3 y9) := Lib.hid ((HWy8.out.alloc HWy8.out.size (.cells #[.int .u64 2175008768, .int .u64 4294967295] 58)).trans (hb.mono (by have := HWy8.out.size; first | (simp; done) | (simp; omega))))
  have HPy9 : Hid (y9.ownsRow x3.heap.size 5 1 (.slice Ay9 8 cy9) 8 ((fl 4 [2175008768, 4294967295]).map bv)) := Lib.hid (own_base ho (by have := HWy8.out.size; first | (simp; done) | (simp; omega)))
  have HOy8 := Lib.hid (own_below (World.ownsRow.alloc HOy8.out (.cells #[.int .u64 2175008768, .int .u64 4294967295] 58)) hb)
  clear ho hb
  go_wp2_with (at_builtin; refine wpList_append_list _ rfl (.tmp 75) (.tmp 78) 33 rfl x3.heap.size 5 i0 (.int .u8 0) 1 1 Tryd.underlying33 hi hz0 hz1 hz2 rfl (by decide) _ (38) _ rfl HOy8.out _ Ay9 (8) cy9 _ rfl (Lst.of_own HPy9.out) oneCell_bytes (by unfold maxLen; omega) (by omega) HWy9.out.size ?_)
  intro Av1 cv1 v1 hown hgrow hat
  have HOv1 : Hid (v1.ownsRow x3.heap.size 5 1 (.slice Av1 (46) cv1) (46) ((fl 4 [33639248] ++ fl 2 [788, 45, FL, me, CK, DT] ++ fl 4 [c, 4294967295, 4294967295] ++ fl 2 [s.size, 28, 0, 0, 0] ++ fl 4 [2175008768, 4294967295]).map bv)) := Lib.hid (by
    simp only [List.map_append, List.append_assoc] at hown ⊢
    exact hown)
  have HWv1 := Lib.hid (HWy9.out.grown hgrow HWy9.out.size (fun g e => (HOy8.out.lt g e).1))
  clear hown hgrow hat
  clear HOy8 HPy9
  have r0 := (HR.out.below' HWv1.out).cell 0
  simp at r0
  go_wp2_with (at_builtin; refine wpList_append_str _ rfl (.tmp 80) (.tmp 82) 33 9 rfl x3.heap.size 5 i0 (.int .u8 0) Tryd.underlying33 Tryd.underlying9 hi hz0 hz1 hz2 rfl (.slice Av1 46 cv1) 46 _ rfl HOv1.out s rfl (by unfold maxLen; omega) (by omega) HWv1.out.size ?_)
  intro A9 c9 v9 hown hgrow hat
  obtain ⟨M, hM⟩ : ∃ M, 46 + s.size = M := ⟨_, rfl⟩
  have HO9 : Hid (v9.ownsRow x3.heap.size 5 1 (.slice A9 M c9) M ((fl 4 [33639248] ++ fl 2 [788, 45, FL, me, CK, DT] ++ fl 4 [c, 4294967295, 4294967295] ++ fl 2 [s.size, 28, 0, 0, 0] ++ fl 4 [2175008768, 4294967295] ++ s.data.toList).map bv)) := Lib.hid (by
    simp only [List.map_append, List.append_assoc, hM] at hown ⊢
    exact hown)
  have HW9 := Lib.hid (HWv1.out.grown hgrow HWv1.out.size (fun g e => (HOv1.out.lt g e).1))
  have hMb : M ≤ 301 := by omega
  have HMM := Lib.hid hM
  rw [hM]
  clear hown hgrow hat hM HOv1 r0
  have HE9 := Lib.hid (HE8.out.below HW9.out)
  go_wp2_with (at_builtin; refine wpList_append_list _ rfl (.tmp 83) (.tmp 84) 33 rfl x3.heap.size 5 i0 (.int .u8 0) 1 1 Tryd.underlying33 hi hz0 hz1 hz2 rfl (by decide) _ M _ rfl HO9.out _ Ax3 28 cx3 _ rfl HE9.out oneCell_bytes (by unfold maxLen; omega) (by omega) HW9.out.size ?_)
  intro A10 c10 z1 hown hgrow hat
  have HO10 : Hid (z1.ownsRow x3.heap.size 5 1 (.slice A10 (M + 28) c10) (M + 28) ((fl 4 [33639248] ++ fl 2 [788, 45, FL, me, CK, DT] ++ fl 4 [c, 4294967295, 4294967295] ++ fl 2 [s.size, 28, 0, 0, 0] ++ fl 4 [2175008768, 4294967295] ++ s.data.toList ++ (fl 2 [1, 24] ++ fl 8 [z, p, pl])).map bv)) := Lib.hid (by
    simp only [List.map_append, List.append_assoc] at hown ⊢
    exact hown)
  have HW10 := Lib.hid (HW9.out.grown hgrow HW9.out.size (fun g e => (HO9.out.lt g e).1))
  clear hown hgrow hat
  go_wp2
  go_ret
  refine ⟨A10, c10, ?_, ?_, HB3.out.trans (HW10.out.mono HB3.out.size)⟩
  · rw [show 74 + s.size = M + 28 by have := HMM.out; omega]; rfl
  · rw [show 74 + s.size = M + 28 by have := HMM.out; omega]
    exact (Bs.of_own HO10.out).mono fun b h => Nat.le_trans HB3.out.size h
end Go.Proofs.YtdmglpnieiiigaaDoor
