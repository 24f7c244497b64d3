/- FinishWrites. -/
import Derived.Test.YtgjkkapopjpohaaF6
namespace Go.Proofs.Ytgjkkapopjpohaa
open Go.RowKit

set_option maxRecDepth 100000 in
set_option maxHeartbeats 4000000 in
theorem law_slim (n s a : Nat) (W : World) (hn : n ≤ 1000) (hs : s < 4294967295) (ha : a < 4294967295) : Calls Try.prog 3 #[.agg #[.int .i64 (n : Nat), .int .i64 (s : Nat), .int .i64 (a : Nat), .bool false]] W fun e w' => e = .returned (.bool true) ∧ Below W.heap.size W w' := by
  have hok : okT (n : Nat) (s : Nat) (a : Nat) = true := by unfold okT; simp; omega
  have HC : Hid (∀ w, Calls Try.prog 10 #[.agg #[.int .i64 (n : Nat), .int .i64 (s : Nat), .int .i64 (a : Nat), .bool false]] w fun e w' => e = .returned (.int .i64 0) ∧ Below w.heap.size w w') := Lib.hid (fun w => by
    have := check_any n s a false w
    rwa [hok, if_pos rfl] at this)
  have HRC : Hid (∀ w, Calls Try.prog 8 #[.agg #[.int .i64 (n : Nat), .int .i64 (s : Nat), .int .i64 (a : Nat), .bool false]] w fun e w' => e = .returned (.bool true) ∧ Below w.heap.size w w') := Lib.hid (fun w => by
    have := rcheck_any n s a false w
    rwa [hok, if_pos rfl] at this)
  have HE := Lib.hid (fun w => encode_slim n s a w hn hs ha)
  have HRE := Lib.hid (fun w => renc_slim n s a w hn hs ha)
  rw [← enc_eq] at HRE
  obtain ⟨D, hD⟩ : ∃ D, enc n s a false = D := ⟨_, rfl⟩
  rw [hD] at HE HRE
  clear hok hD
  go_enter Try.func3, Try.ntmps3
  go_wp2_with fail
  obtain ⟨w0, hw0⟩ : ∃ w0, W.alloc (.cells #[.int .i64 (n : Nat), .int .i64 (s : Nat), .int .i64 (a : Nat), .bool false] 23) = w0 := ⟨_, rfl⟩
  rw [hw0]
  have HW0 : Hid (Below W.heap.size W w0) := Lib.hid (hw0 ▸ (Below.refl _ _).alloc (Nat.le_refl _) _)
  have HR : Hid (Whole w0 W.heap.size 23 #[.int .i64 (n : Nat), .int .i64 (s : Nat), .int .i64 (a : Nat), .bool false]) := Lib.hid (hw0 ▸ Whole.new W 23 _ rfl)
  clear hw0
  refine (awake_any w0).mono ?_
  rintro e w1 ⟨rfl, hb1⟩
  have HB1 : Hid (Below w0.heap.size w0 w1) := Lib.hid hb1
  have hr := HR.out.below' hb1
  have r0 := hr.cell 0
  have r1 := hr.cell 1
  have r2 := hr.cell 2
  have r3 := hr.cell 3
  simp at r0 r1 r2 r3
  clear hb1 hr
  go_wp2_with fail
  refine (HE.out w1).mono ?_
  rintro e w2 ⟨A2, c2, rfl, hO, hb2⟩
  have HB2 := Lib.hid (HB1.out.trans (hb2.mono HB1.out.size))
  have HO2 := Lib.hid hO
  have hr := HR.out.below' HB2.out
  have r0 := hr.cell 0
  have r1 := hr.cell 1
  have r2 := hr.cell 2
  have r3 := hr.cell 3
  simp at r0 r1 r2 r3
  clear hb2 hO hr
  go_wp2_with fail
  refine (ref_any n s a false w2).mono ?_
  rintro e w3 ⟨rfl, hb3⟩
  have HB3 := Lib.hid (HB2.out.trans (hb3.mono HB2.out.size))
  have HO3 := Lib.hid (HO2.out.below hb3)
  clear hb3
  go_wp2_with fail
  refine (HRC.out w3).mono ?_
  rintro e w4 ⟨rfl, hb4⟩
  have HB4 := Lib.hid (HB3.out.trans (hb4.mono HB3.out.size))
  have HO4 := HO3.out.below hb4
  have hr := HR.out.below' HB4.out
  have r0 := hr.cell 0
  have r1 := hr.cell 1
  have r2 := hr.cell 2
  have r3 := hr.cell 3
  simp at r0 r1 r2 r3
  have hlt : W.heap.size < w4.heap.size := hr.lt
  have k1 := fun mm => str_of (w := w4.over mm) c2 (HO4.below (World.over_below w4 mm))
  clear hb4 HO4 hr HB1 HB2 HB3 HO2 HO3
  go_wp2
  refine wp_region_free (by kernel_rfl) (by kernel_rfl) (by kernel_rfl) ?_
  iterate 4 (first | (refine free_skip rfl rfl ?_; intro K hK; go_big_quiet_op; go_big_quiet_on) | (refine free_hard rfl rfl ?_; intro K hK; go_big_quiet_op; go_big_quiet_on))
  refine free_value (.int .i64 0) rfl rfl rfl (fun w' hw' => ?_) ?_
  · have hb := hw'.1.below
    have HW := Lib.hid hw'
    clear hw'
    go_simp
    exact Calls.soft_value (HC.out w')
  intro K hK
  go_big_quiet_op
  go_big_quiet_on
  iterate 6 (first | (refine free_skip rfl rfl ?_; intro K hK; go_big_quiet_op; go_big_quiet_on) | (refine free_hard rfl rfl ?_; intro K hK; go_big_quiet_op; go_big_quiet_on))
  refine free_value (.agg #[.int .i64 (n : Nat), .int .i64 (s : Nat), .int .i64 (a : Nat), .bool false]) rfl rfl rfl (fun w' hw' => ?_) ?_
  · have hb := hw'.1.below
    have HW := Lib.hid hw'
    clear hw'
    go_simp
    exact Calls.soft_value (ref_any n s a false w')
  intro K hK
  go_big_quiet_op
  go_big_quiet_on
  refine free_soft (ι := Option Addr × Nat) (fun i => .slice i.1 (22) i.2) (fun i w' => Bs w' (fun b => w4.heap.size ≤ b) i.1 (22) (D)) rfl rfl rfl (fun _ => firm_bs) (fun w' hw' => ?_) (fun i => ?_)
  · have hb := hw'.1.below
    have HW := Lib.hid hw'
    clear hw'
    go_simp
    refine (HRE.out w').mono ?_
    rintro e w2 ⟨A', c', rfl, ho, hb2⟩
    exact ⟨hb2, (A', c'), rfl, (Bs.of_own ho).mono fun b h => by have := hb.size; omega⟩
  obtain ⟨A5, c5⟩ := i
  dsimp only
  intro K hK
  go_big_quiet_op
  go_big_quiet_on
  refine free_fact (.string ⟨D.toArray⟩) rfl rfl rfl (fun w' hw' => ?_) ?_
  · have hf := str_of c5 (hw'.2 12 (by kernel_rfl)).1
    clear hw'
    go_simp
  intro K hK
  go_big_quiet_op
  go_big_quiet_on
  iterate 3 (first | (refine free_skip rfl rfl ?_; intro K hK; go_big_quiet_op; go_big_quiet_on) | (refine free_hard rfl rfl ?_; intro K hK; go_big_quiet_op; go_big_quiet_on))
  refine free_nil ?_
  intro w5 hb5 hk5
  have B5 := Lib.hid (HW0.out.trans ((HB4.out.trans (hb5.mono HB4.out.size)).mono HW0.out.size))
  clear hk5 hb5 k1
  go_wp2
  go_ret
  exact ⟨rfl, B5.out⟩
set_option maxRecDepth 100000 in
set_option maxHeartbeats 4000000 in
theorem law_wide (n s a : Nat) (W : World) (hn : n ≤ 1000) (hs : s < 4294967295) (ha : a < 4294967295) : Calls Try.prog 3 #[.agg #[.int .i64 (n : Nat), .int .i64 (s : Nat), .int .i64 (a : Nat), .bool true]] W fun e w' => e = .returned (.bool true) ∧ Below W.heap.size W w' := by
  have hok : okT (n : Nat) (s : Nat) (a : Nat) = true := by unfold okT; simp; omega
  have HC : Hid (∀ w, Calls Try.prog 10 #[.agg #[.int .i64 (n : Nat), .int .i64 (s : Nat), .int .i64 (a : Nat), .bool true]] w fun e w' => e = .returned (.int .i64 0) ∧ Below w.heap.size w w') := Lib.hid (fun w => by
    have := check_any n s a true w
    rwa [hok, if_pos rfl] at this)
  have HRC : Hid (∀ w, Calls Try.prog 8 #[.agg #[.int .i64 (n : Nat), .int .i64 (s : Nat), .int .i64 (a : Nat), .bool true]] w fun e w' => e = .returned (.bool true) ∧ Below w.heap.size w w') := Lib.hid (fun w => by
    have := rcheck_any n s a true w
    rwa [hok, if_pos rfl] at this)
  have HE := Lib.hid (fun w => encode_wide n s a w hn hs ha)
  have HRE := Lib.hid (fun w => renc_wide n s a w hn hs ha)
  rw [← enc_eq] at HRE
  obtain ⟨D, hD⟩ : ∃ D, enc n s a true = D := ⟨_, rfl⟩
  rw [hD] at HE HRE
  clear hok hD
  go_enter Try.func3, Try.ntmps3
  go_wp2_with fail
  obtain ⟨w0, hw0⟩ : ∃ w0, W.alloc (.cells #[.int .i64 (n : Nat), .int .i64 (s : Nat), .int .i64 (a : Nat), .bool true] 23) = w0 := ⟨_, rfl⟩
  rw [hw0]
  have HW0 : Hid (Below W.heap.size W w0) := Lib.hid (hw0 ▸ (Below.refl _ _).alloc (Nat.le_refl _) _)
  have HR : Hid (Whole w0 W.heap.size 23 #[.int .i64 (n : Nat), .int .i64 (s : Nat), .int .i64 (a : Nat), .bool true]) := Lib.hid (hw0 ▸ Whole.new W 23 _ rfl)
  clear hw0
  refine (awake_any w0).mono ?_
  rintro e w1 ⟨rfl, hb1⟩
  have HB1 : Hid (Below w0.heap.size w0 w1) := Lib.hid hb1
  have hr := HR.out.below' hb1
  have r0 := hr.cell 0
  have r1 := hr.cell 1
  have r2 := hr.cell 2
  have r3 := hr.cell 3
  simp at r0 r1 r2 r3
  clear hb1 hr
  go_wp2_with fail
  refine (HE.out w1).mono ?_
  rintro e w2 ⟨A2, c2, rfl, hO, hb2⟩
  have HB2 := Lib.hid (HB1.out.trans (hb2.mono HB1.out.size))
  have HO2 := Lib.hid hO
  have hr := HR.out.below' HB2.out
  have r0 := hr.cell 0
  have r1 := hr.cell 1
  have r2 := hr.cell 2
  have r3 := hr.cell 3
  simp at r0 r1 r2 r3
  clear hb2 hO hr
  go_wp2_with fail
  refine (ref_any n s a true w2).mono ?_
  rintro e w3 ⟨rfl, hb3⟩
  have HB3 := Lib.hid (HB2.out.trans (hb3.mono HB2.out.size))
  have HO3 := Lib.hid (HO2.out.below hb3)
  clear hb3
  go_wp2_with fail
  refine (HRC.out w3).mono ?_
  rintro e w4 ⟨rfl, hb4⟩
  have HB4 := Lib.hid (HB3.out.trans (hb4.mono HB3.out.size))
  have HO4 := HO3.out.below hb4
  have hr := HR.out.below' HB4.out
  have r0 := hr.cell 0
  have r1 := hr.cell 1
  have r2 := hr.cell 2
  have r3 := hr.cell 3
  simp at r0 r1 r2 r3
  have hlt : W.heap.size < w4.heap.size := hr.lt
  have k1 := fun mm => str_of (w := w4.over mm) c2 (HO4.below (World.over_below w4 mm))
  clear hb4 HO4 hr HB1 HB2 HB3 HO2 HO3
  go_wp2
  refine wp_region_free (by kernel_rfl) (by kernel_rfl) (by kernel_rfl) ?_
  iterate 4 (first | (refine free_skip rfl rfl ?_; intro K hK; go_big_quiet_op; go_big_quiet_on) | (refine free_hard rfl rfl ?_; intro K hK; go_big_quiet_op; go_big_quiet_on))
  refine free_value (.int .i64 0) rfl rfl rfl (fun w' hw' => ?_) ?_
  · have hb := hw'.1.below
    have HW := Lib.hid hw'
    clear hw'
    go_simp
    exact Calls.soft_value (HC.out w')
  intro K hK
  go_big_quiet_op
  go_big_quiet_on
  iterate 6 (first | (refine free_skip rfl rfl ?_; intro K hK; go_big_quiet_op; go_big_quiet_on) | (refine free_hard rfl rfl ?_; intro K hK; go_big_quiet_op; go_big_quiet_on))
  refine free_value (.agg #[.int .i64 (n : Nat), .int .i64 (s : Nat), .int .i64 (a : Nat), .bool true]) rfl rfl rfl (fun w' hw' => ?_) ?_
  · have hb := hw'.1.below
    have HW := Lib.hid hw'
    clear hw'
    go_simp
    exact Calls.soft_value (ref_any n s a true w')
  intro K hK
  go_big_quiet_op
  go_big_quiet_on
  refine free_soft (ι := Option Addr × Nat) (fun i => .slice i.1 (98) i.2) (fun i w' => Bs w' (fun b => w4.heap.size ≤ b) i.1 (98) (D)) rfl rfl rfl (fun _ => firm_bs) (fun w' hw' => ?_) (fun i => ?_)
  · have hb := hw'.1.below
    have HW := Lib.hid hw'
    clear hw'
    go_simp
    refine (HRE.out w').mono ?_
    rintro e w2 ⟨A', c', rfl, ho, hb2⟩
    exact ⟨hb2, (A', c'), rfl, (Bs.of_own ho).mono fun b h => by have := hb.size; omega⟩
  obtain ⟨A5, c5⟩ := i
  dsimp only
  intro K hK
  go_big_quiet_op
  go_big_quiet_on
  refine free_fact (.string ⟨D.toArray⟩) rfl rfl rfl (fun w' hw' => ?_) ?_
  · have hf := str_of c5 (hw'.2 12 (by kernel_rfl)).1
    clear hw'
    go_simp
  intro K hK
  go_big_quiet_op
  go_big_quiet_on
  iterate 3 (first | (refine free_skip rfl rfl ?_; intro K hK; go_big_quiet_op; go_big_quiet_on) | (refine free_hard rfl rfl ?_; intro K hK; go_big_quiet_op; go_big_quiet_on))
  refine free_nil ?_
  intro w5 hb5 hk5
  have B5 := Lib.hid (HW0.out.trans ((HB4.out.trans (hb5.mono HB4.out.size)).mono HW0.out.size))
  clear hk5 hb5 k1
  go_wp2
  go_ret
  exact ⟨rfl, B5.out⟩
set_option maxRecDepth 100000 in
theorem law_bad (n s a : Int) (wd : Bool) (W : World) (h : okT n s a = false) : Calls Try.prog 3 #[.agg #[.int .i64 n, .int .i64 s, .int .i64 a, .bool wd]] W fun e w' => e = .returned (.bool true) ∧ Below W.heap.size W w' := by
  have HC : Hid (∀ w, Calls Try.prog 10 #[.agg #[.int .i64 n, .int .i64 s, .int .i64 a, .bool wd]] w fun e w' => e = .returned (.int .i64 13) ∧ Below w.heap.size w w') := Lib.hid (fun w => by
    have := check_any n s a wd w
    rwa [h, if_neg (by simp)] at this)
  have HRC : Hid (∀ w, Calls Try.prog 8 #[.agg #[.int .i64 n, .int .i64 s, .int .i64 a, .bool wd]] w fun e w' => e = .returned (.bool false) ∧ Below w.heap.size w w') := Lib.hid (fun w => by
    have := rcheck_any n s a wd w
    rwa [h, if_neg (by simp)] at this)
  have HE := Lib.hid (fun w => encode_bad n s a wd w h)
  clear h
  go_enter Try.func3, Try.ntmps3
  go_wp2_with fail
  obtain ⟨w0, hw0⟩ : ∃ w0, W.alloc (.cells #[.int .i64 n, .int .i64 s, .int .i64 a, .bool wd] 23) = w0 := ⟨_, rfl⟩
  rw [hw0]
  have HW0 : Hid (Below W.heap.size W w0) := Lib.hid (hw0 ▸ (Below.refl _ _).alloc (Nat.le_refl _) _)
  have HR : Hid (Whole w0 W.heap.size 23 #[.int .i64 n, .int .i64 s, .int .i64 a, .bool wd]) := Lib.hid (hw0 ▸ Whole.new W 23 _ rfl)
  clear hw0
  refine (awake_any w0).mono ?_
  rintro e w1 ⟨rfl, hb1⟩
  have HB1 : Hid (Below w0.heap.size w0 w1) := Lib.hid hb1
  have hr := HR.out.below' hb1
  have r0 := hr.cell 0
  have r1 := hr.cell 1
  have r2 := hr.cell 2
  have r3 := hr.cell 3
  simp at r0 r1 r2 r3
  clear hb1 hr
  go_wp2_with fail
  refine (HE.out w1).mono ?_
  rintro e w2 ⟨rfl, hb2⟩
  have HB2 := Lib.hid (HB1.out.trans (hb2.mono HB1.out.size))
  have hr := HR.out.below' HB2.out
  have r0 := hr.cell 0
  have r1 := hr.cell 1
  have r2 := hr.cell 2
  have r3 := hr.cell 3
  simp at r0 r1 r2 r3
  clear hb2 hr
  go_wp2_with fail
  refine (ref_any n s a wd w2).mono ?_
  rintro e w3 ⟨rfl, hb3⟩
  have HB3 := Lib.hid (HB2.out.trans (hb3.mono HB2.out.size))
  clear hb3
  go_wp2_with fail
  refine (HRC.out w3).mono ?_
  rintro e w4 ⟨rfl, hb4⟩
  have HB4 := Lib.hid (HB3.out.trans (hb4.mono HB3.out.size))
  have hr := HR.out.below' HB4.out
  have r0 := hr.cell 0
  have r1 := hr.cell 1
  have r2 := hr.cell 2
  have r3 := hr.cell 3
  simp at r0 r1 r2 r3
  clear hb4 hr
  go_wp2_with fail
  refine (HC.out w4).mono ?_
  rintro e w5 ⟨rfl, hb5⟩
  have B5 := Lib.hid (HW0.out.trans ((HB4.out.trans (hb5.mono HB4.out.size)).mono HW0.out.size))
  clear hb5
  go_wp2
  go_ret
  exact ⟨rfl, B5.out⟩
theorem writes_law (n s a : Int) (wd : Bool) (W : World) : Calls Try.prog 3 #[.agg #[.int .i64 n, .int .i64 s, .int .i64 a, .bool wd]] W fun e w' => e = .returned (.bool true) ∧ Below W.heap.size W w' := by
  cases h : okT n s a
  · exact law_bad n s a wd W h
  · have h' := h
    unfold okT at h'
    simp at h'
    obtain ⟨n, rfl⟩ := Int.eq_ofNat_of_zero_le (show 0 ≤ n by omega)
    obtain ⟨s, rfl⟩ := Int.eq_ofNat_of_zero_le (show 0 ≤ s by omega)
    obtain ⟨a, rfl⟩ := Int.eq_ofNat_of_zero_le (show 0 ≤ a by omega)
    cases wd
    · exact law_slim n s a W (by omega) (by omega) (by omega)
    · exact law_wide n s a W (by omega) (by omega) (by omega)
end Go.Proofs.Ytgjkkapopjpohaa
