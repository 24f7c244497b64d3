/- OctetNumbers, for all bytes, places and numbers. -/
import Derived.Test.YtjndcehmlegacaaW7
namespace Go.Proofs.Ytjndcehmlegacaa
open Go.RowKit

theorem firm_true : Firm fun _ => True := fun _ _ _ _ => trivial
theorem right_wrong (k : Int) (h : ¬ (1 ≤ k ∧ k ≤ 8)) : rightW k = false := by unfold rightW; simp only [h, decide_false]
set_option maxHeartbeats 4000000 in
set_option maxRecDepth 100000 in
theorem numbers_low (A : Option Addr) (n c : Nat) (bs : List UInt8) (p k : Int) (v : Nat) (w : World) (hB : Bs w (fun b => b < w.heap.size) A n bs) (hc : n ≤ c) (hcc : c ≤ 9223372036854775807) (h2 : n ≤ 1000) (hv : v < 18446744073709551616) (p0 : -9223372036854775808 ≤ p) (p1 : p ≤ 9223372036854775807) (hk : k < 1) :
    Calls Try.prog 3 #[.slice A n c, .agg #[.int .i64 p, .int .i64 k], .int .u64 v] w fun e w' => e = .returned (.bool true) ∧ Below w.heap.size w w' := by
  have HB := Lib.hid hB
  clear hB
  have RW := Lib.hid (right_wrong k (by omega))
  have EX : Hid (existsB n p k = false) := Lib.hid (by unfold existsB; simp only [decide_eq_false_iff_not]; omega)
  have q1 : decide (k ≤ 8) = true := by simp; omega
  have q2 : decide (1 ≤ k) = false := by simp; omega
  go_enter Try.func3, Try.ntmps3
  go_wp2_with fail
  refine (awake_any _).mono ?_
  rintro e w1 ⟨rfl, hb⟩
  have T1 := Lib.hid ((Whole.new w 23 #[.int .i64 p, .int .i64 k] rfl).below' hb)
  have B1 := Lib.hid (((Below.refl _ _).alloc (Nat.le_refl _) _).trans (hb.mono (by simp)))
  have L1 := Lib.hid (HB.out.below B1.out)
  clear hb
  have c0 := T1.out.cell 0
  have c1 := T1.out.cell 1
  go_wp2_with fail
  go_quiet (fail)
  go_wp2_with fail
  refine (right_any _ _).mono ?_
  rw [RW.out]
  rintro e w2 ⟨rfl, rfl⟩
  clear c0 c1 T1
  go_wp2_with fail
  refine (get_no A n c p k _ (by omega) p0 p1 EX.out).mono ?_
  rintro e w2 ⟨rfl, rfl⟩
  go_wp2_with fail
  refine (put_no A n c bs _ p k v _ (L1.out.drewN _) (by omega) p0 p1 EX.out).mono ?_
  rintro e w2 ⟨A2, c2, rfl, ho, hb⟩
  have B2 := Lib.hid ((B1.out.drewN' nq).trans (hb.mono (by have := B1.out.size; simpa using this)))
  have L2 := Lib.hid ((L1.out.drewN nq).below hb)
  have O2 := Lib.hid (Bs.of_own ho)
  clear hb ho
  have k1 : ∀ m, (convert 22 9 (.slice A n c)).run Try.prog (w2.over m) = .ok (.string ⟨bs.toArray⟩) (w2.over m) := fun m => str_of c (L2.out.below (World.over_below w2 m))
  have k2 : ∀ m, (convert 22 9 (.slice A2 n c2)).run Try.prog (w2.over m) = .ok (.string ⟨bs.toArray⟩) (w2.over m) := fun m => str_of c2 (O2.out.below (World.over_below w2 m))
  go_wp2
  refine wp_region_free (by kernel_rfl) (by kernel_rfl) (by kernel_rfl) ?_
  iterate 2 (first | (refine free_skip rfl rfl ?_; intro K hK; go_big_quiet_op; go_big_quiet_on) | (refine free_hard rfl rfl ?_; intro K hK; go_big_quiet_op; go_big_quiet_on))
  refine free_value (.bool false) rfl rfl rfl (fun w' hw' => ?_) ?_
  · have hb := hw'.1.below
    have HW := Lib.hid hw'
    clear hw'
    go_simp
    exact Calls.soft_same (fits_wrong v k _ RW.out)
  intro K hK
  go_big_quiet_op
  go_big_quiet_on
  iterate 5 (first | (refine free_skip rfl rfl ?_; intro K hK; go_big_quiet_op; go_big_quiet_on) | (refine free_hard rfl rfl ?_; intro K hK; go_big_quiet_op; go_big_quiet_on))
  refine free_soft (ι := Option Addr × Nat) (fun i => .slice i.1 (n) i.2) (fun i w' => Bs w' (fun b => w2.heap.size ≤ b) i.1 (n) (bs)) rfl rfl rfl (fun _ => firm_bs) (fun w' hw' => ?_) (fun i => ?_)
  · have hb := hw'.1.below
    have HW := Lib.hid hw'
    clear hw'
    go_simp
    refine (append_wrong A n c bs _ k v w' (L2.out.below hb) (by omega) RW.out).mono ?_
    rintro e w2 ⟨A', c', rfl, ho, hb2⟩
    exact ⟨hb2, (A', c'), rfl, (Bs.of_own ho).mono fun b h => by have := hb.size; omega⟩
  obtain ⟨A3, c3⟩ := i
  dsimp only
  intro K hK
  go_big_quiet_op
  go_big_quiet_on
  refine free_fact (.string ⟨bs.toArray⟩) rfl rfl rfl (fun w' hw' => ?_) ?_
  · have hf := str_of c3 (hw'.2 8 (by kernel_rfl)).1
    clear hw'
    go_simp
  intro K hK
  go_big_quiet_op
  go_big_quiet_on
  iterate 24 (first | (refine free_skip rfl rfl ?_; intro K hK; go_big_quiet_op; go_big_quiet_on) | (refine free_hard rfl rfl ?_; intro K hK; go_big_quiet_op; go_big_quiet_on))
  refine free_nil ?_
  intro w4 hb4 hk4
  have B4 := Lib.hid (B2.out.trans (hb4.mono B2.out.size))
  clear hk4 hb4 k1 k2
  go_wp2
  go_ret
  exact ⟨rfl, B4.out⟩
set_option maxHeartbeats 4000000 in
set_option maxRecDepth 100000 in
theorem numbers_high (A : Option Addr) (n c : Nat) (bs : List UInt8) (p k : Int) (v : Nat) (w : World) (hB : Bs w (fun b => b < w.heap.size) A n bs) (hc : n ≤ c) (hcc : c ≤ 9223372036854775807) (h2 : n ≤ 1000) (hv : v < 18446744073709551616) (p0 : -9223372036854775808 ≤ p) (p1 : p ≤ 9223372036854775807) (hk : 8 < k) :
    Calls Try.prog 3 #[.slice A n c, .agg #[.int .i64 p, .int .i64 k], .int .u64 v] w fun e w' => e = .returned (.bool true) ∧ Below w.heap.size w w' := by
  have HB := Lib.hid hB
  clear hB
  have RW := Lib.hid (right_wrong k (by omega))
  have EX : Hid (existsB n p k = false) := Lib.hid (by unfold existsB; simp only [decide_eq_false_iff_not]; omega)
  have q1 : decide (k ≤ 8) = false := by simp; omega
  have q2 : decide (1 ≤ k) = true := by simp; omega
  go_enter Try.func3, Try.ntmps3
  go_wp2_with fail
  refine (awake_any _).mono ?_
  rintro e w1 ⟨rfl, hb⟩
  have T1 := Lib.hid ((Whole.new w 23 #[.int .i64 p, .int .i64 k] rfl).below' hb)
  have B1 := Lib.hid (((Below.refl _ _).alloc (Nat.le_refl _) _).trans (hb.mono (by simp)))
  have L1 := Lib.hid (HB.out.below B1.out)
  clear hb
  have c0 := T1.out.cell 0
  have c1 := T1.out.cell 1
  go_wp2_with fail
  go_quiet (fail)
  go_wp2_with fail
  refine (right_any _ _).mono ?_
  rw [RW.out]
  rintro e w2 ⟨rfl, rfl⟩
  clear c0 c1 T1
  go_wp2_with fail
  refine (get_no A n c p k _ (by omega) p0 p1 EX.out).mono ?_
  rintro e w2 ⟨rfl, rfl⟩
  go_wp2_with fail
  refine (put_no A n c bs _ p k v _ (L1.out.drewN _) (by omega) p0 p1 EX.out).mono ?_
  rintro e w2 ⟨A2, c2, rfl, ho, hb⟩
  have B2 := Lib.hid ((B1.out.drewN' nq).trans (hb.mono (by have := B1.out.size; simpa using this)))
  have L2 := Lib.hid ((L1.out.drewN nq).below hb)
  have O2 := Lib.hid (Bs.of_own ho)
  clear hb ho
  have k1 : ∀ m, (convert 22 9 (.slice A n c)).run Try.prog (w2.over m) = .ok (.string ⟨bs.toArray⟩) (w2.over m) := fun m => str_of c (L2.out.below (World.over_below w2 m))
  have k2 : ∀ m, (convert 22 9 (.slice A2 n c2)).run Try.prog (w2.over m) = .ok (.string ⟨bs.toArray⟩) (w2.over m) := fun m => str_of c2 (O2.out.below (World.over_below w2 m))
  go_wp2
  refine wp_region_free (by kernel_rfl) (by kernel_rfl) (by kernel_rfl) ?_
  iterate 2 (first | (refine free_skip rfl rfl ?_; intro K hK; go_big_quiet_op; go_big_quiet_on) | (refine free_hard rfl rfl ?_; intro K hK; go_big_quiet_op; go_big_quiet_on))
  refine free_value (.bool false) rfl rfl rfl (fun w' hw' => ?_) ?_
  · have hb := hw'.1.below
    have HW := Lib.hid hw'
    clear hw'
    go_simp
    exact Calls.soft_same (fits_wrong v k _ RW.out)
  intro K hK
  go_big_quiet_op
  go_big_quiet_on
  iterate 5 (first | (refine free_skip rfl rfl ?_; intro K hK; go_big_quiet_op; go_big_quiet_on) | (refine free_hard rfl rfl ?_; intro K hK; go_big_quiet_op; go_big_quiet_on))
  refine free_soft (ι := Option Addr × Nat) (fun i => .slice i.1 (n) i.2) (fun i w' => Bs w' (fun b => w2.heap.size ≤ b) i.1 (n) (bs)) rfl rfl rfl (fun _ => firm_bs) (fun w' hw' => ?_) (fun i => ?_)
  · have hb := hw'.1.below
    have HW := Lib.hid hw'
    clear hw'
    go_simp
    refine (append_wrong A n c bs _ k v w' (L2.out.below hb) (by omega) RW.out).mono ?_
    rintro e w2 ⟨A', c', rfl, ho, hb2⟩
    exact ⟨hb2, (A', c'), rfl, (Bs.of_own ho).mono fun b h => by have := hb.size; omega⟩
  obtain ⟨A3, c3⟩ := i
  dsimp only
  intro K hK
  go_big_quiet_op
  go_big_quiet_on
  refine free_fact (.string ⟨bs.toArray⟩) rfl rfl rfl (fun w' hw' => ?_) ?_
  · have hf := str_of c3 (hw'.2 8 (by kernel_rfl)).1
    clear hw'
    go_simp
  intro K hK
  go_big_quiet_op
  go_big_quiet_on
  iterate 24 (first | (refine free_skip rfl rfl ?_; intro K hK; go_big_quiet_op; go_big_quiet_on) | (refine free_hard rfl rfl ?_; intro K hK; go_big_quiet_op; go_big_quiet_on))
  refine free_nil ?_
  intro w4 hb4 hk4
  have B4 := Lib.hid (B2.out.trans (hb4.mono B2.out.size))
  clear hk4 hb4 k1 k2
  go_wp2
  go_ret
  exact ⟨rfl, B4.out⟩
theorem number_le (A : Option Addr) (v k c : Nat) (S : Nat → Prop) (w : World) (h : Bs w S A k (leB v k)) (hk : k ≤ 8) : Calls Try.prog 13 #[.slice A k c] w fun e w' => e = .returned (.int .u64 (v % 256 ^ k : Nat)) ∧ w = w' := by
  have := number_any A k c _ S w h hk
  rwa [num_leB] at this
theorem fits_mod (v k x : Nat) (r : Bool) (h : v % 256 ^ k = x) (hr : decide (v < 256 ^ k) = r) : ((x : Int) == (v : Int)) = r := by
  subst h
  rw [← hr, Bool.eq_iff_iff, beq_iff_eq, decide_eq_true_eq]
  constructor
  · intro h
    have h1 : v % 256 ^ k = v := by omega
    rw [← h1]
    exact Nat.mod_lt _ (Nat.pow_pos (by omega))
  · intro h
    rw [Nat.mod_eq_of_lt h]
set_option maxHeartbeats 4000000 in
set_option maxRecDepth 100000 in
theorem numbers_in (A : Option Addr) (n c : Nat) (bs : List UInt8) (p k : Nat) (v : Nat) (w : World) (hB : Bs w (fun b => b < w.heap.size) A n bs) (hc : n ≤ c) (hcc : c ≤ 9223372036854775807) (h2 : n ≤ 1000) (hv : v < 18446744073709551616) (hk1 : 1 ≤ k) (hk8 : k ≤ 8) (hp : p + k ≤ n) :
    Calls Try.prog 3 #[.slice A n c, .agg #[.int .i64 p, .int .i64 k], .int .u64 v] w fun e w' => e = .returned (.bool true) ∧ Below w.heap.size w w' := by
  have HB := Lib.hid hB
  clear hB
  have HRT : Hid (rightW k = true) := Lib.hid (by unfold rightW; simp; omega)
  obtain ⟨x, hx⟩ : ∃ x, v % 256 ^ k = x := ⟨_, rfl⟩
  obtain ⟨r, hr⟩ : ∃ r, decide (v < 256 ^ k) = r := ⟨_, rfl⟩
  have FM := Lib.hid (fits_mod v k x r hx hr)
  have HX := Lib.hid hx
  have HR := Lib.hid hr
  have k1' : (1 : Int) ≤ k := by omega
  have k8' : (k : Int) ≤ 8 := by omega
  clear hx hr
  go_enter Try.func3, Try.ntmps3
  go_wp2_with fail
  refine (awake_any _).mono ?_
  rintro e w1 ⟨rfl, hb⟩
  have T1 := Lib.hid ((Whole.new w 23 #[.int .i64 p, .int .i64 k] rfl).below' hb)
  have B1 := Lib.hid (((Below.refl _ _).alloc (Nat.le_refl _) _).trans (hb.mono (by simp)))
  have L1 := Lib.hid (HB.out.below B1.out)
  clear hb
  have c0 := T1.out.cell 0
  have c1 := T1.out.cell 1
  go_wp2_with fail
  go_quiet (fail)
  go_wp2_with fail
  refine (right_any _ _).mono ?_
  rw [HRT.out]
  rintro e w2 ⟨rfl, rfl⟩
  clear c0 c1 T1
  go_wp2_with fail
  refine (rbytes_any v k _ hv (by omega)).mono ?_
  rintro e w2 ⟨A2, c2, rfl, ho, hb⟩
  have B2 := Lib.hid ((B1.out.drewN' nq).trans (hb.mono (by have := B1.out.size; simpa using this)))
  have L2 := Lib.hid ((L1.out.drewN nq).below hb)
  have O2 := Lib.hid (Bs.of_own ho)
  clear hb ho
  go_wp2
  refine wp_region_free (by kernel_rfl) (by kernel_rfl) (by kernel_rfl) ?_
  iterate 2 (first | (refine free_skip rfl rfl ?_; intro K hK; go_big_quiet_op; go_big_quiet_on) | (refine free_hard rfl rfl ?_; intro K hK; go_big_quiet_op; go_big_quiet_on))
  refine free_value (.bool r) rfl rfl rfl (fun w' hw' => ?_) ?_
  · have hb := hw'.1.below
    have HW := Lib.hid hw'
    clear hw'
    go_simp
    exact Calls.soft_same (fits_any v k r _ hk1 hk8 hv HR.out)
  intro K hK
  go_big_quiet_op
  go_big_quiet_on
  iterate 1 (first | (refine free_skip rfl rfl ?_; intro K hK; go_big_quiet_op; go_big_quiet_on) | (refine free_hard rfl rfl ?_; intro K hK; go_big_quiet_op; go_big_quiet_on))
  refine free_value (.int .u64 (x : Nat)) rfl rfl rfl (fun w' hw' => ?_) ?_
  · have hb := hw'.1.below
    have HW := Lib.hid hw'
    clear hw'
    go_simp
    exact Calls.soft_same (HX.out ▸ number_le A2 v k c2 _ w' (O2.out.below hb) hk8)
  intro K hK
  go_big_quiet_op
  go_big_quiet_on
  have fm := FM.out
  iterate 3 (first | (refine free_skip rfl rfl ?_; intro K hK; go_big_quiet_op; go_big_quiet_on) | (refine free_hard rfl rfl ?_; intro K hK; go_big_quiet_op; go_big_quiet_on))
  clear fm
  iterate 4 (first | (refine free_skip rfl rfl ?_; intro K hK; go_big_quiet_op; go_big_quiet_on) | (refine free_hard rfl rfl ?_; intro K hK; go_big_quiet_op; go_big_quiet_on))
  refine free_soft (ι := Option Addr × Nat) (fun i => .slice i.1 (n + k) i.2) (fun i w' => Bs w' (fun b => w2.heap.size ≤ b) i.1 (n + k) (bs ++ leB v k)) rfl rfl rfl (fun _ => firm_bs) (fun w' hw' => ?_) (fun i => ?_)
  · have hb := hw'.1.below
    have HW := Lib.hid hw'
    clear hw'
    go_simp
    refine (append_right A n c bs _ k v w' (L2.out.below hb) (by omega) hk1 hk8 hv).mono ?_
    rintro e w2 ⟨A', c', rfl, ho, hb2⟩
    exact ⟨hb2, (A', c'), rfl, (Bs.of_own ho).mono fun b h => by have := hb.size; omega⟩
  obtain ⟨A3, c3⟩ := i
  dsimp only
  intro K hK
  go_big_quiet_op
  go_big_quiet_on
  refine free_fact (.string ⟨(bs ++ leB v k).toArray⟩) rfl rfl rfl (fun w' hw' => ?_) ?_
  · have hf := str_of c3 (hw'.2 12 (by kernel_rfl)).1
    clear hw'
    go_simp
  intro K hK
  go_big_quiet_op
  go_big_quiet_on
  iterate 2 (first | (refine free_skip rfl rfl ?_; intro K hK; go_big_quiet_op; go_big_quiet_on) | (refine free_hard rfl rfl ?_; intro K hK; go_big_quiet_op; go_big_quiet_on))
  refine free_soft (ι := Option Addr × Nat) (fun i => .slice i.1 (n + k) i.2) (fun i w' => Bs w' (fun b => w2.heap.size ≤ b) i.1 (n + k) (bs ++ leB v k)) rfl rfl rfl (fun _ => firm_bs) (fun w' hw' => ?_) (fun i => ?_)
  · have hb := hw'.1.below
    have HW := Lib.hid hw'
    clear hw'
    go_simp
    refine (join_any A A2 n k c c2 bs (leB v k) _ _ w' (L2.out.below hb) (O2.out.below hb) (by omega)).mono ?_
    rintro e w2 ⟨A', c', rfl, ho, hb2⟩
    exact ⟨hb2, (A', c'), rfl, (Bs.of_own ho).mono fun b h => by have := hb.size; omega⟩
  obtain ⟨A4, c4⟩ := i
  dsimp only
  intro K hK
  go_big_quiet_op
  go_big_quiet_on
  refine free_fact (.string ⟨(bs ++ leB v k).toArray⟩) rfl rfl rfl (fun w' hw' => ?_) ?_
  · have hf := str_of c4 (hw'.2 16 (by kernel_rfl)).1
    clear hw'
    go_simp
  intro K hK
  go_big_quiet_op
  go_big_quiet_on
  iterate 2 (first | (refine free_skip rfl rfl ?_; intro K hK; go_big_quiet_op; go_big_quiet_on) | (refine free_hard rfl rfl ?_; intro K hK; go_big_quiet_op; go_big_quiet_on))
  refine free_nil ?_
  intro w4 hb4 hk4
  have B4 := Lib.hid (B2.out.trans (hb4.mono B2.out.size))
  have L4 := Lib.hid (L2.out.below hb4)
  have O4 := Lib.hid (O2.out.below hb4)
  clear hk4 hb4 B2 L2 O2 L1 B1
  go_wp2_with fail
  refine (get_yes A n c bs _ p k w4 L4.out (by omega) hk1 hk8 hp).mono ?_
  obtain ⟨y, hy⟩ : ∃ y, num ((bs.drop p).take k) = y := ⟨_, rfl⟩
  rw [hy]
  have HY := Lib.hid hy
  clear hy
  rintro e w5 ⟨rfl, rfl⟩
  go_wp2_with fail
  refine (put_yes A n c bs _ p k v _ L4.out (by omega) hk1 hk8 hp hv).mono ?_
  rintro e w5 ⟨A5, c5, rfl, ho, hb⟩
  have B5 := Lib.hid (B4.out.trans (hb.mono B4.out.size))
  have L5 := Lib.hid (L4.out.below hb)
  have O5 := Lib.hid (O4.out.below hb)
  have P5 := Lib.hid (Bs.of_own ho)
  clear hb ho B4 L4 O4
  go_wp2_with fail
  refine (in_any n p k w5 (by omega) (by omega) (by omega) (by omega) true (by simp; omega)).mono ?_
  rintro e w6 ⟨rfl, rfl⟩
  have k5 : ∀ m, (convert 22 9 (.slice A5 n c5)).run Try.prog (w5.over m) = .ok (.string ⟨(overB bs p (leB v k)).toArray⟩) (w5.over m) := fun m => str_of c5 (P5.out.below (World.over_below w5 m))
  obtain ⟨ab, ao, rfl, _, _⟩ := L5.out.2 (by omega)
  have s1 : (p : Int) < c := by omega
  have s2 : (p : Int) + k ≤ c := by omega
  have s3 : c ≠ p := by omega
  have s4 : (0 : Int) ≤ p := by omega
  go_wp2
  refine wp_region_free (by kernel_rfl) (by kernel_rfl) (by kernel_rfl) ?_
  iterate 12 (first | (refine free_skip rfl rfl ?_; intro K hK; go_big_quiet_op; go_big_quiet_on) | (refine free_hard rfl rfl ?_; intro K hK; go_big_quiet_op; go_big_quiet_on))
  refine free_value (.int .u64 (y : Nat)) rfl rfl rfl (fun w' hw' => ?_) ?_
  · have hb := hw'.1.below
    have HW := Lib.hid hw'
    clear hw'
    go_simp
    exact Calls.soft_same (HY.out ▸ number_any _ k _ _ _ w' (((L5.out.below hb).drop (k := p) (by omega)).take (k := k) (by omega)) hk8)
  intro K hK
  go_big_quiet_op
  go_big_quiet_on
  iterate 8 (first | (refine free_skip rfl rfl ?_; intro K hK; go_big_quiet_op; go_big_quiet_on) | (refine free_hard rfl rfl ?_; intro K hK; go_big_quiet_op; go_big_quiet_on))
  refine free_soft (ι := Option Addr × Nat) (fun i => .slice i.1 (n) i.2) (fun i w' => Bs w' (fun b => w5.heap.size ≤ b) i.1 (n) (overB bs p (leB v k))) rfl rfl rfl (fun _ => firm_bs) (fun w' hw' => ?_) (fun i => ?_)
  · have hb := hw'.1.below
    have HW := Lib.hid hw'
    clear hw'
    go_simp
    refine (rput_any _ A2 n k c c2 p bs (leB v k) _ _ w' (L5.out.below hb) (O5.out.below hb) hc hcc hp hk1 (by omega)).mono ?_
    rintro e w2 ⟨A', c', rfl, ho, hb2⟩
    exact ⟨hb2, (A', c'), rfl, ho.mono fun b h => by have := hb.size; omega⟩
  obtain ⟨A6, c6⟩ := i
  dsimp only
  intro K hK
  go_big_quiet_op
  go_big_quiet_on
  refine free_fact (.string ⟨(overB bs p (leB v k)).toArray⟩) rfl rfl rfl (fun w' hw' => ?_) ?_
  · have hf := str_of c6 (hw'.2 21 (by kernel_rfl)).1
    clear hw'
    go_simp
  intro K hK
  go_big_quiet_op
  go_big_quiet_on
  iterate 3 (first | (refine free_skip rfl rfl ?_; intro K hK; go_big_quiet_op; go_big_quiet_on) | (refine free_hard rfl rfl ?_; intro K hK; go_big_quiet_op; go_big_quiet_on))
  refine free_nil ?_
  intro w6 hb6 hk6
  have B6 := Lib.hid (B5.out.trans (hb6.mono B5.out.size))
  clear hk6 hb6 k5
  go_wp2
  go_ret
  exact ⟨rfl, B6.out⟩
set_option maxHeartbeats 4000000 in
set_option maxRecDepth 100000 in
theorem numbers_out (A : Option Addr) (n c : Nat) (bs : List UInt8) (p : Int) (k : Nat) (v : Nat) (w : World) (hB : Bs w (fun b => b < w.heap.size) A n bs) (hc : n ≤ c) (hcc : c ≤ 9223372036854775807) (h2 : n ≤ 1000) (hv : v < 18446744073709551616) (p0 : -9223372036854775808 ≤ p) (p1 : p ≤ 9223372036854775807) (hk1 : 1 ≤ k) (hk8 : k ≤ 8) (hp : ¬ (0 ≤ p ∧ p + k ≤ n)) :
    Calls Try.prog 3 #[.slice A n c, .agg #[.int .i64 p, .int .i64 k], .int .u64 v] w fun e w' => e = .returned (.bool true) ∧ Below w.heap.size w w' := by
  have HB := Lib.hid hB
  clear hB
  have HRT : Hid (rightW k = true) := Lib.hid (by unfold rightW; simp; omega)
  obtain ⟨x, hx⟩ : ∃ x, v % 256 ^ k = x := ⟨_, rfl⟩
  obtain ⟨r, hr⟩ : ∃ r, decide (v < 256 ^ k) = r := ⟨_, rfl⟩
  have FM := Lib.hid (fits_mod v k x r hx hr)
  have HX := Lib.hid hx
  have HR := Lib.hid hr
  have k1' : (1 : Int) ≤ k := by omega
  have k8' : (k : Int) ≤ 8 := by omega
  clear hx hr
  have EX : Hid (existsB n p k = false) := Lib.hid (by unfold existsB; simp only [decide_eq_false_iff_not]; omega)
  have IN : Hid (decide ((1 : Int) ≤ k ∧ (k : Int) ≤ 8 ∧ 0 ≤ p ∧ p ≤ n ∧ (k : Int) ≤ n - p) = false) := Lib.hid (by simp only [decide_eq_false_iff_not]; omega)
  go_enter Try.func3, Try.ntmps3
  go_wp2_with fail
  refine (awake_any _).mono ?_
  rintro e w1 ⟨rfl, hb⟩
  have T1 := Lib.hid ((Whole.new w 23 #[.int .i64 p, .int .i64 k] rfl).below' hb)
  have B1 := Lib.hid (((Below.refl _ _).alloc (Nat.le_refl _) _).trans (hb.mono (by simp)))
  have L1 := Lib.hid (HB.out.below B1.out)
  clear hb
  have c0 := T1.out.cell 0
  have c1 := T1.out.cell 1
  go_wp2_with fail
  go_quiet (fail)
  go_wp2_with fail
  refine (right_any _ _).mono ?_
  rw [HRT.out]
  rintro e w2 ⟨rfl, rfl⟩
  clear c0 c1 T1
  go_wp2_with fail
  refine (rbytes_any v k _ hv (by omega)).mono ?_
  rintro e w2 ⟨A2, c2, rfl, ho, hb⟩
  have B2 := Lib.hid ((B1.out.drewN' nq).trans (hb.mono (by have := B1.out.size; simpa using this)))
  have L2 := Lib.hid ((L1.out.drewN nq).below hb)
  have O2 := Lib.hid (Bs.of_own ho)
  clear hb ho
  go_wp2
  refine wp_region_free (by kernel_rfl) (by kernel_rfl) (by kernel_rfl) ?_
  iterate 2 (first | (refine free_skip rfl rfl ?_; intro K hK; go_big_quiet_op; go_big_quiet_on) | (refine free_hard rfl rfl ?_; intro K hK; go_big_quiet_op; go_big_quiet_on))
  refine free_value (.bool r) rfl rfl rfl (fun w' hw' => ?_) ?_
  · have hb := hw'.1.below
    have HW := Lib.hid hw'
    clear hw'
    go_simp
    exact Calls.soft_same (fits_any v k r _ hk1 hk8 hv HR.out)
  intro K hK
  go_big_quiet_op
  go_big_quiet_on
  iterate 1 (first | (refine free_skip rfl rfl ?_; intro K hK; go_big_quiet_op; go_big_quiet_on) | (refine free_hard rfl rfl ?_; intro K hK; go_big_quiet_op; go_big_quiet_on))
  refine free_value (.int .u64 (x : Nat)) rfl rfl rfl (fun w' hw' => ?_) ?_
  · have hb := hw'.1.below
    have HW := Lib.hid hw'
    clear hw'
    go_simp
    exact Calls.soft_same (HX.out ▸ number_le A2 v k c2 _ w' (O2.out.below hb) hk8)
  intro K hK
  go_big_quiet_op
  go_big_quiet_on
  have fm := FM.out
  iterate 3 (first | (refine free_skip rfl rfl ?_; intro K hK; go_big_quiet_op; go_big_quiet_on) | (refine free_hard rfl rfl ?_; intro K hK; go_big_quiet_op; go_big_quiet_on))
  clear fm
  iterate 4 (first | (refine free_skip rfl rfl ?_; intro K hK; go_big_quiet_op; go_big_quiet_on) | (refine free_hard rfl rfl ?_; intro K hK; go_big_quiet_op; go_big_quiet_on))
  refine free_soft (ι := Option Addr × Nat) (fun i => .slice i.1 (n + k) i.2) (fun i w' => Bs w' (fun b => w2.heap.size ≤ b) i.1 (n + k) (bs ++ leB v k)) rfl rfl rfl (fun _ => firm_bs) (fun w' hw' => ?_) (fun i => ?_)
  · have hb := hw'.1.below
    have HW := Lib.hid hw'
    clear hw'
    go_simp
    refine (append_right A n c bs _ k v w' (L2.out.below hb) (by omega) hk1 hk8 hv).mono ?_
    rintro e w2 ⟨A', c', rfl, ho, hb2⟩
    exact ⟨hb2, (A', c'), rfl, (Bs.of_own ho).mono fun b h => by have := hb.size; omega⟩
  obtain ⟨A3, c3⟩ := i
  dsimp only
  intro K hK
  go_big_quiet_op
  go_big_quiet_on
  refine free_fact (.string ⟨(bs ++ leB v k).toArray⟩) rfl rfl rfl (fun w' hw' => ?_) ?_
  · have hf := str_of c3 (hw'.2 12 (by kernel_rfl)).1
    clear hw'
    go_simp
  intro K hK
  go_big_quiet_op
  go_big_quiet_on
  iterate 2 (first | (refine free_skip rfl rfl ?_; intro K hK; go_big_quiet_op; go_big_quiet_on) | (refine free_hard rfl rfl ?_; intro K hK; go_big_quiet_op; go_big_quiet_on))
  refine free_soft (ι := Option Addr × Nat) (fun i => .slice i.1 (n + k) i.2) (fun i w' => Bs w' (fun b => w2.heap.size ≤ b) i.1 (n + k) (bs ++ leB v k)) rfl rfl rfl (fun _ => firm_bs) (fun w' hw' => ?_) (fun i => ?_)
  · have hb := hw'.1.below
    have HW := Lib.hid hw'
    clear hw'
    go_simp
    refine (join_any A A2 n k c c2 bs (leB v k) _ _ w' (L2.out.below hb) (O2.out.below hb) (by omega)).mono ?_
    rintro e w2 ⟨A', c', rfl, ho, hb2⟩
    exact ⟨hb2, (A', c'), rfl, (Bs.of_own ho).mono fun b h => by have := hb.size; omega⟩
  obtain ⟨A4, c4⟩ := i
  dsimp only
  intro K hK
  go_big_quiet_op
  go_big_quiet_on
  refine free_fact (.string ⟨(bs ++ leB v k).toArray⟩) rfl rfl rfl (fun w' hw' => ?_) ?_
  · have hf := str_of c4 (hw'.2 16 (by kernel_rfl)).1
    clear hw'
    go_simp
  intro K hK
  go_big_quiet_op
  go_big_quiet_on
  iterate 2 (first | (refine free_skip rfl rfl ?_; intro K hK; go_big_quiet_op; go_big_quiet_on) | (refine free_hard rfl rfl ?_; intro K hK; go_big_quiet_op; go_big_quiet_on))
  refine free_nil ?_
  intro w4 hb4 hk4
  have B4 := Lib.hid (B2.out.trans (hb4.mono B2.out.size))
  have L4 := Lib.hid (L2.out.below hb4)
  have O4 := Lib.hid (O2.out.below hb4)
  clear hk4 hb4 B2 L2 O2 L1 B1
  go_wp2_with fail
  refine (get_no A n c p k w4 (by omega) p0 p1 EX.out).mono ?_
  rintro e w5 ⟨rfl, rfl⟩
  go_wp2_with fail
  refine (put_no A n c bs _ p k v _ L4.out (by omega) p0 p1 EX.out).mono ?_
  rintro e w5 ⟨A5, c5, rfl, ho, hb⟩
  have B5 := Lib.hid (B4.out.trans (hb.mono B4.out.size))
  have k5 := str_of c5 (Bs.of_own ho)
  have k6 := str_of c (L4.out.below hb)
  clear hb ho B4 L4 O4
  go_wp2_with fail
  refine (in_any n p k w5 (by omega) (by omega) p0 p1 false IN.out).mono ?_
  rintro e w6 ⟨rfl, rfl⟩
  go_wp2
  go_ret
  exact ⟨rfl, B5.out⟩
set_option maxHeartbeats 1000000 in
set_option maxRecDepth 100000 in
theorem numbers_long (A : Option Addr) (n c : Nat) (p k : Int) (v : Nat) (w : World) (h : 1000 < n) :
    Calls Try.prog 3 #[.slice A n c, .agg #[.int .i64 p, .int .i64 k], .int .u64 v] w fun e w' => e = .returned (.bool true) ∧ Below w.heap.size w w' := by
  go_enter Try.func3, Try.ntmps3
  go_wp2_with fail
  refine (awake_any _).mono ?_
  rintro e w1 ⟨rfl, hb⟩
  have B1 := Lib.hid (((Below.refl _ _).alloc (Nat.le_refl _) _).trans (hb.mono (by simp)))
  clear hb
  go_wp2
  go_ret
  exact ⟨rfl, B1.out⟩
theorem numbers_any (A : Option Addr) (n c : Nat) (bs : List UInt8) (p k : Int) (v : Nat) (w : World) (hB : Bs w (fun b => b < w.heap.size) A n bs) (hc : n ≤ c) (hcc : c ≤ 9223372036854775807) (hv : v < 18446744073709551616) (p0 : -9223372036854775808 ≤ p) (p1 : p ≤ 9223372036854775807) :
    Calls Try.prog 3 #[.slice A n c, .agg #[.int .i64 p, .int .i64 k], .int .u64 v] w fun e w' => e = .returned (.bool true) ∧ Below w.heap.size w w' := by
  by_cases h : 1000 < n
  · exact numbers_long A n c p k v w h
  by_cases h1 : k < 1
  · exact numbers_low A n c bs p k v w hB hc hcc (by omega) hv p0 p1 h1
  by_cases h2 : 8 < k
  · exact numbers_high A n c bs p k v w hB hc hcc (by omega) hv p0 p1 h2
  obtain ⟨j, rfl⟩ := Int.eq_ofNat_of_zero_le (show 0 ≤ k by omega)
  by_cases hp : 0 ≤ p ∧ p + j ≤ n
  · obtain ⟨q, rfl⟩ := Int.eq_ofNat_of_zero_le hp.1
    exact numbers_in A n c bs q j v w hB hc hcc (by omega) hv (by omega) (by omega) (by omega)
  · exact numbers_out A n c bs p j v w hB hc hcc (by omega) hv p0 p1 (by omega) (by omega) hp
end Go.Proofs.Ytjndcehmlegacaa
