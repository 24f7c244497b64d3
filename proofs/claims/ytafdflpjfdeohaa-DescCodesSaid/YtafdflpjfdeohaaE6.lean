/- The page's Parse. -/
import Derived.Test.YtafdflpjfdeohaaE5
import Derived.Test.YtafdflpjfdeohaaFree
namespace Go.Proofs.Ytafdflpjfdeohaa
open Go.RowKit

theorem number_val (A : Option Addr) (n c : Nat) (bs : List UInt8) (S : Nat → Prop) (w : World) (v : Nat) (hB : Bs w S A n bs) (hn : n ≤ 8) (hv : num bs = v) :
    Calls Try.prog 21 #[.slice A n c] w fun e w' => e = .returned (.int .u64 (v : Nat)) ∧ w = w' := by
  have := number_any A n c bs S w hB hn
  rwa [hv] at this
def QV (q : Bool) (c p s : Nat) : Value := .tuple (if q = true then #[.int .u32 (c : Nat), .int .i64 (p : Nat), .int .i64 (s : Nat), .bool true] else #[.int .u32 0, .int .i64 0, .int .i64 0, .bool false])
def QP (w : World) (q : Bool) (c p s : Nat) (e : Ending) (w' : World) : Prop := e = .returned (QV q c p s) ∧ Below w.heap.size w w'
theorem rpar_short (A : Option Addr) (m cA : Nat) (wd : Bool) (w : World) (h : m < 8 + 2 * wid wd) : Calls Try.prog 11 #[.slice A m cA, .bool wd] w (QP w false 0 0 0) := by
  cases wd
  · have d1 : decide (m < 16) = true := by simp [wid] at h; simp; omega
    have d1' : decide ((m : Int) < 16) = true := by simp [wid] at h; simp; omega
    go_enter Try.func11, Try.ntmps11
    go_wp2
    simp [bodyPost, results, Try.results11, go_sem]
    exact ⟨rfl, Below.refl _ _⟩
  · have d1 : decide (m < 24) = true := by simp [wid] at h; simp; omega
    have d1' : decide ((m : Int) < 24) = true := by simp [wid] at h; simp; omega
    go_enter Try.func11, Try.ntmps11
    go_wp2
    simp [bodyPost, results, Try.results11, go_sem]
    exact ⟨rfl, Below.refl _ _⟩
set_option maxHeartbeats 4000000 in
set_option maxRecDepth 100000 in
theorem rpar_slim_ok (A : Option Addr) (m cA : Nat) (bs : List UInt8) (S : Nat → Prop) (c p s : Nat) (w : World) (hB : Bs w S A m bs) (hm : m ≤ 1000) (hL : 16 ≤ m) (hmc : m ≤ cA) (n1 : num ((bs.drop 4).take 4) = c) (n2 : num ((bs.drop 8).take 4) = p) (n3 : num ((bs.drop 12).take 4) = s) (h1 : p ≤ 33554432) (h2 : s ≤ 16777216) (q : Bool) (hq : (encD c p s false == bs.take 16) = q) :
    Calls Try.prog 11 #[.slice A m cA, .bool false] w (QP w q c p s) := by
  obtain ⟨bk, off, rfl, -, -, -⟩ := hB.at_ (i := 0) (by omega)
  have H1 := Lib.hid ((hB.drop (k := 4) (by omega)).take (k := 4) (by omega))
  have H2 := Lib.hid ((hB.drop (k := 8) (by omega)).take (k := 4) (by omega))
  have H3 := Lib.hid ((hB.drop (k := 12) (by omega)).take (k := 4) (by omega))
  have HB := Lib.hid (hB.take (k := 16) (by omega))
  have N1 := Lib.hid n1
  have N2 := Lib.hid n2
  have N3 := Lib.hid n3
  have hcb : c < 4294967296 := n1 ▸ num_bd bs _ 4 _ (by decide)
  have hsb : s < 18446744073709551616 := Nat.lt_of_lt_of_le (n3 ▸ num_bd bs _ 4 _ rfl) (by decide)
  have hpb : p < 18446744073709551616 := Nat.lt_of_lt_of_le (n2 ▸ num_bd bs _ 4 _ rfl) (by decide)
  have kc : IntKind.u32.wrap (c : Int) = (c : Int) := IntWalk.u32_in _ (by omega)
  have d1 : decide (m < 16) = false := by simpa using hL
  have d1' : decide ((m : Int) < 16) = false := by simp; omega
  have g1 : decide (33554432 < p) = false := by simpa using h1
  have g1' : decide ((33554432 : Int) < (p : Int)) = false := by simp; omega
  have g2 : decide (16777216 < s) = false := by simpa using h2
  have g2' : decide ((16777216 : Int) < (s : Int)) = false := by simp; omega
  have kp : IntKind.i64.wrap (p : Int) = (p : Int) := IntWalk.i64_in _ (by omega)
  have ks : IntKind.i64.wrap (s : Int) = (s : Int) := IntWalk.i64_in _ (by omega)
  have HE := Lib.hid (fun w => renc_slim c p s w hcb h1 h2)
  obtain ⟨D, hD⟩ : ∃ D, encD c p s false = D := ⟨_, rfl⟩
  obtain ⟨X, hX⟩ : ∃ X, bs.take 16 = X := ⟨_, rfl⟩
  rw [hD] at HE hq
  rw [hX] at HB hq
  have HQ := Lib.hid hq
  clear hD hX hq
  clear hB n1 n2 n3 hpb hsb
  go_enter Try.func11, Try.ntmps11
  go_wp2_with fail
  refine wp_region_free2 (mk := fun j => [2, 8, 16].any (Nat.beq j)) (by kernel_rfl) (by kernel_rfl) (by kernel_rfl) ?_
  iterate 2 (first | ((with_reducible refine vfree_skip rfl ?_ ?_); (focus rfl); intro K hK; go_big_quiet_op; go_big_quiet_on) | ((with_reducible refine vfree_hard ?_ ?_ ?_); (focus rfl); (focus rfl); intro K hK; go_big_quiet_op; go_big_quiet_on))
  refine vfree_one (.int .u64 (c : Nat)) rfl rfl rfl (fun w' hw' => ?_) ?_
  · have hb := hw'.1.below
    go_simp
    exact Calls.one_same (number_val _ 4 _ _ S w' c (H1.out.below hb) (by omega) N1.out)
  intro K hK
  go_big_quiet_op
  go_big_quiet_on
  iterate 5 (first | ((with_reducible refine vfree_skip rfl ?_ ?_); (focus rfl); intro K hK; go_big_quiet_op; go_big_quiet_on) | ((with_reducible refine vfree_hard ?_ ?_ ?_); (focus rfl); (focus rfl); intro K hK; go_big_quiet_op; go_big_quiet_on))
  refine vfree_one (.int .u64 (p : Nat)) rfl rfl rfl (fun w' hw' => ?_) ?_
  · have hb := hw'.1.below
    go_simp
    exact Calls.one_same (number_val _ 4 _ _ S w' p (H2.out.below hb) (by omega) N2.out)
  intro K hK
  go_big_quiet_op
  go_big_quiet_on
  iterate 7 (first | ((with_reducible refine vfree_skip rfl ?_ ?_); (focus rfl); intro K hK; go_big_quiet_op; go_big_quiet_on) | ((with_reducible refine vfree_hard ?_ ?_ ?_); (focus rfl); (focus rfl); intro K hK; go_big_quiet_op; go_big_quiet_on))
  refine vfree_one (.int .u64 (s : Nat)) rfl rfl rfl (fun w' hw' => ?_) ?_
  · have hb := hw'.1.below
    go_simp
    exact Calls.one_same (number_val _ 4 _ _ S w' s (H3.out.below hb) (by omega) N3.out)
  intro K hK
  go_big_quiet_op
  go_big_quiet_on
  iterate 3 (first | ((with_reducible refine vfree_skip rfl ?_ ?_); (focus rfl); intro K hK; go_big_quiet_op; go_big_quiet_on) | ((with_reducible refine vfree_hard ?_ ?_ ?_); (focus rfl); (focus rfl); intro K hK; go_big_quiet_op; go_big_quiet_on))
  refine vfree_nil ?_
  intro w4 hb4 hk4
  have HW := Lib.hid hb4
  have HB := Lib.hid (HB.out.below hb4)
  clear hk4 hb4
  go_wp2_with fail
  have k1 := fun mm => str_of (w := w4.over mm) cA (HB.out.below (World.over_below w4 mm))
  refine wp_region_free2 (mk := fun j => [].any (Nat.beq j)) (by kernel_rfl) (by kernel_rfl) (by kernel_rfl) ?_
  iterate 13 (first | ((with_reducible refine vfree_skip rfl ?_ ?_); (focus rfl); intro K hK; go_big_quiet_op; go_big_quiet_on) | ((with_reducible refine vfree_hard ?_ ?_ ?_); (focus rfl); (focus rfl); intro K hK; go_big_quiet_op; go_big_quiet_on))
  refine vfree_soft (ι := Option Addr × Nat) (fun i => .slice i.1 (16) i.2) (fun i w' => Bs w' (fun b => w4.heap.size ≤ b) i.1 (16) (D)) rfl rfl rfl (fun _ => firm_bs) (fun w' hw' => ?_) (fun i => ?_)
  · have hb := hw'.1.below
    go_simp
    refine (HE.out w').mono ?_
    rintro e w2 ⟨A', c', rfl, ho, hb2⟩
    exact ⟨hb2, (A', c'), rfl, (Bs.of_own ho).mono fun b h => by have := hb.size; omega⟩
  obtain ⟨A9, c9⟩ := i
  dsimp only
  intro K hK
  go_big_quiet_op
  go_big_quiet_on
  refine vfree_fact (.string ⟨D.toArray⟩) rfl rfl rfl (fun w' hw' => ?_) ?_
  · have hf := str_of c9 (hw'.2 13 (by kernel_rfl)).1
    clear hw'
    go_simp
  intro K hK
  go_big_quiet_op
  go_big_quiet_on
  iterate 8 (first | ((with_reducible refine vfree_skip rfl ?_ ?_); (focus rfl); intro K hK; go_big_quiet_op; go_big_quiet_on) | ((with_reducible refine vfree_hard ?_ ?_ ?_); (focus rfl); (focus rfl); intro K hK; go_big_quiet_op; go_big_quiet_on))
  refine vfree_nil ?_
  intro w5 hb5 hk5
  have HW := Lib.hid (HW.out.trans (hb5.mono HW.out.size))
  clear hk5 hb5 k1
  by_cases hDX : D = X
  · subst hDX
    have hq1 : q = true := by rw [← HQ.out]; simp
    subst hq1
    go_wp2
    all_goals first
      | (rename_i hx; exfalso; revert hx; simp; done)
      | (simp [bodyPost, results, Try.results11, go_sem]; exact ⟨rfl, HW.out⟩)
  · have e7 : (D == X) = false := beq_eq_false_iff_ne.2 hDX
    have hq1 : q = false := by rw [← HQ.out]; exact e7
    subst hq1
    go_wp2
    all_goals first
      | (rename_i hx; exfalso; revert hx; simp [e7]; done)
      | (simp [bodyPost, results, Try.results11, go_sem]; exact ⟨rfl, HW.out⟩)
set_option maxHeartbeats 4000000 in
set_option maxRecDepth 100000 in
theorem rpar_slim_p (A : Option Addr) (m cA : Nat) (bs : List UInt8) (S : Nat → Prop) (c p s : Nat) (w : World) (hB : Bs w S A m bs) (hm : m ≤ 1000) (hL : 16 ≤ m) (hmc : m ≤ cA) (n1 : num ((bs.drop 4).take 4) = c) (n2 : num ((bs.drop 8).take 4) = p) (n3 : num ((bs.drop 12).take 4) = s) (h1 : 33554432 < p) :
    Calls Try.prog 11 #[.slice A m cA, .bool false] w (QP w false c p s) := by
  obtain ⟨bk, off, rfl, -, -, -⟩ := hB.at_ (i := 0) (by omega)
  have H1 := Lib.hid ((hB.drop (k := 4) (by omega)).take (k := 4) (by omega))
  have H2 := Lib.hid ((hB.drop (k := 8) (by omega)).take (k := 4) (by omega))
  have H3 := Lib.hid ((hB.drop (k := 12) (by omega)).take (k := 4) (by omega))
  have HB := Lib.hid (hB.take (k := 16) (by omega))
  have N1 := Lib.hid n1
  have N2 := Lib.hid n2
  have N3 := Lib.hid n3
  have hcb : c < 4294967296 := n1 ▸ num_bd bs _ 4 _ (by decide)
  have hsb : s < 18446744073709551616 := Nat.lt_of_lt_of_le (n3 ▸ num_bd bs _ 4 _ rfl) (by decide)
  have hpb : p < 18446744073709551616 := Nat.lt_of_lt_of_le (n2 ▸ num_bd bs _ 4 _ rfl) (by decide)
  have kc : IntKind.u32.wrap (c : Int) = (c : Int) := IntWalk.u32_in _ (by omega)
  have d1 : decide (m < 16) = false := by simpa using hL
  have d1' : decide ((m : Int) < 16) = false := by simp; omega
  have g1 : decide (33554432 < p) = true := by simpa using h1
  have g1' : decide ((33554432 : Int) < (p : Int)) = true := by simp; omega
  clear hB n1 n2 n3 hpb hsb
  go_enter Try.func11, Try.ntmps11
  go_wp2_with fail
  refine wp_region_free2 (mk := fun j => [2, 8, 16].any (Nat.beq j)) (by kernel_rfl) (by kernel_rfl) (by kernel_rfl) ?_
  iterate 2 (first | ((with_reducible refine vfree_skip rfl ?_ ?_); (focus rfl); intro K hK; go_big_quiet_op; go_big_quiet_on) | ((with_reducible refine vfree_hard ?_ ?_ ?_); (focus rfl); (focus rfl); intro K hK; go_big_quiet_op; go_big_quiet_on))
  refine vfree_one (.int .u64 (c : Nat)) rfl rfl rfl (fun w' hw' => ?_) ?_
  · have hb := hw'.1.below
    go_simp
    exact Calls.one_same (number_val _ 4 _ _ S w' c (H1.out.below hb) (by omega) N1.out)
  intro K hK
  go_big_quiet_op
  go_big_quiet_on
  iterate 5 (first | ((with_reducible refine vfree_skip rfl ?_ ?_); (focus rfl); intro K hK; go_big_quiet_op; go_big_quiet_on) | ((with_reducible refine vfree_hard ?_ ?_ ?_); (focus rfl); (focus rfl); intro K hK; go_big_quiet_op; go_big_quiet_on))
  refine vfree_one (.int .u64 (p : Nat)) rfl rfl rfl (fun w' hw' => ?_) ?_
  · have hb := hw'.1.below
    go_simp
    exact Calls.one_same (number_val _ 4 _ _ S w' p (H2.out.below hb) (by omega) N2.out)
  intro K hK
  go_big_quiet_op
  go_big_quiet_on
  iterate 7 (first | ((with_reducible refine vfree_skip rfl ?_ ?_); (focus rfl); intro K hK; go_big_quiet_op; go_big_quiet_on) | ((with_reducible refine vfree_hard ?_ ?_ ?_); (focus rfl); (focus rfl); intro K hK; go_big_quiet_op; go_big_quiet_on))
  refine vfree_one (.int .u64 (s : Nat)) rfl rfl rfl (fun w' hw' => ?_) ?_
  · have hb := hw'.1.below
    go_simp
    exact Calls.one_same (number_val _ 4 _ _ S w' s (H3.out.below hb) (by omega) N3.out)
  intro K hK
  go_big_quiet_op
  go_big_quiet_on
  iterate 3 (first | ((with_reducible refine vfree_skip rfl ?_ ?_); (focus rfl); intro K hK; go_big_quiet_op; go_big_quiet_on) | ((with_reducible refine vfree_hard ?_ ?_ ?_); (focus rfl); (focus rfl); intro K hK; go_big_quiet_op; go_big_quiet_on))
  refine vfree_nil ?_
  intro w4 hb4 hk4
  have HW := Lib.hid hb4
  have HB := Lib.hid (HB.out.below hb4)
  clear hk4 hb4
  go_wp2_with fail
  refine wp_region_free2 (mk := fun j => [13].any (Nat.beq j)) (by kernel_rfl) (by kernel_rfl) (by kernel_rfl) ?_
  iterate 23 (first | ((with_reducible refine vfree_skip rfl ?_ ?_); (focus rfl); intro K hK; go_big_quiet_op; go_big_quiet_on) | ((with_reducible refine vfree_hard ?_ ?_ ?_); (focus rfl); (focus rfl); intro K hK; go_big_quiet_op; go_big_quiet_on))
  refine vfree_nil ?_
  intro w5 hb5 hk5
  have HW := Lib.hid (HW.out.trans (hb5.mono HW.out.size))
  clear hk5 hb5
  go_wp2
  simp [bodyPost, results, Try.results11, go_sem]
  exact ⟨rfl, HW.out⟩
set_option maxHeartbeats 4000000 in
set_option maxRecDepth 100000 in
theorem rpar_slim_s (A : Option Addr) (m cA : Nat) (bs : List UInt8) (S : Nat → Prop) (c p s : Nat) (w : World) (hB : Bs w S A m bs) (hm : m ≤ 1000) (hL : 16 ≤ m) (hmc : m ≤ cA) (n1 : num ((bs.drop 4).take 4) = c) (n2 : num ((bs.drop 8).take 4) = p) (n3 : num ((bs.drop 12).take 4) = s) (h1 : p ≤ 33554432) (h2 : 16777216 < s) :
    Calls Try.prog 11 #[.slice A m cA, .bool false] w (QP w false c p s) := by
  obtain ⟨bk, off, rfl, -, -, -⟩ := hB.at_ (i := 0) (by omega)
  have H1 := Lib.hid ((hB.drop (k := 4) (by omega)).take (k := 4) (by omega))
  have H2 := Lib.hid ((hB.drop (k := 8) (by omega)).take (k := 4) (by omega))
  have H3 := Lib.hid ((hB.drop (k := 12) (by omega)).take (k := 4) (by omega))
  have HB := Lib.hid (hB.take (k := 16) (by omega))
  have N1 := Lib.hid n1
  have N2 := Lib.hid n2
  have N3 := Lib.hid n3
  have hcb : c < 4294967296 := n1 ▸ num_bd bs _ 4 _ (by decide)
  have hsb : s < 18446744073709551616 := Nat.lt_of_lt_of_le (n3 ▸ num_bd bs _ 4 _ rfl) (by decide)
  have hpb : p < 18446744073709551616 := Nat.lt_of_lt_of_le (n2 ▸ num_bd bs _ 4 _ rfl) (by decide)
  have kc : IntKind.u32.wrap (c : Int) = (c : Int) := IntWalk.u32_in _ (by omega)
  have d1 : decide (m < 16) = false := by simpa using hL
  have d1' : decide ((m : Int) < 16) = false := by simp; omega
  have g1 : decide (33554432 < p) = false := by simpa using h1
  have g1' : decide ((33554432 : Int) < (p : Int)) = false := by simp; omega
  have g2 : decide (16777216 < s) = true := by simpa using h2
  have g2' : decide ((16777216 : Int) < (s : Int)) = true := by simp; omega
  clear hB n1 n2 n3 hpb hsb
  go_enter Try.func11, Try.ntmps11
  go_wp2_with fail
  refine wp_region_free2 (mk := fun j => [2, 8, 16].any (Nat.beq j)) (by kernel_rfl) (by kernel_rfl) (by kernel_rfl) ?_
  iterate 2 (first | ((with_reducible refine vfree_skip rfl ?_ ?_); (focus rfl); intro K hK; go_big_quiet_op; go_big_quiet_on) | ((with_reducible refine vfree_hard ?_ ?_ ?_); (focus rfl); (focus rfl); intro K hK; go_big_quiet_op; go_big_quiet_on))
  refine vfree_one (.int .u64 (c : Nat)) rfl rfl rfl (fun w' hw' => ?_) ?_
  · have hb := hw'.1.below
    go_simp
    exact Calls.one_same (number_val _ 4 _ _ S w' c (H1.out.below hb) (by omega) N1.out)
  intro K hK
  go_big_quiet_op
  go_big_quiet_on
  iterate 5 (first | ((with_reducible refine vfree_skip rfl ?_ ?_); (focus rfl); intro K hK; go_big_quiet_op; go_big_quiet_on) | ((with_reducible refine vfree_hard ?_ ?_ ?_); (focus rfl); (focus rfl); intro K hK; go_big_quiet_op; go_big_quiet_on))
  refine vfree_one (.int .u64 (p : Nat)) rfl rfl rfl (fun w' hw' => ?_) ?_
  · have hb := hw'.1.below
    go_simp
    exact Calls.one_same (number_val _ 4 _ _ S w' p (H2.out.below hb) (by omega) N2.out)
  intro K hK
  go_big_quiet_op
  go_big_quiet_on
  iterate 7 (first | ((with_reducible refine vfree_skip rfl ?_ ?_); (focus rfl); intro K hK; go_big_quiet_op; go_big_quiet_on) | ((with_reducible refine vfree_hard ?_ ?_ ?_); (focus rfl); (focus rfl); intro K hK; go_big_quiet_op; go_big_quiet_on))
  refine vfree_one (.int .u64 (s : Nat)) rfl rfl rfl (fun w' hw' => ?_) ?_
  · have hb := hw'.1.below
    go_simp
    exact Calls.one_same (number_val _ 4 _ _ S w' s (H3.out.below hb) (by omega) N3.out)
  intro K hK
  go_big_quiet_op
  go_big_quiet_on
  iterate 3 (first | ((with_reducible refine vfree_skip rfl ?_ ?_); (focus rfl); intro K hK; go_big_quiet_op; go_big_quiet_on) | ((with_reducible refine vfree_hard ?_ ?_ ?_); (focus rfl); (focus rfl); intro K hK; go_big_quiet_op; go_big_quiet_on))
  refine vfree_nil ?_
  intro w4 hb4 hk4
  have HW := Lib.hid hb4
  have HB := Lib.hid (HB.out.below hb4)
  clear hk4 hb4
  go_wp2_with fail
  refine wp_region_free2 (mk := fun j => [13].any (Nat.beq j)) (by kernel_rfl) (by kernel_rfl) (by kernel_rfl) ?_
  iterate 23 (first | ((with_reducible refine vfree_skip rfl ?_ ?_); (focus rfl); intro K hK; go_big_quiet_op; go_big_quiet_on) | ((with_reducible refine vfree_hard ?_ ?_ ?_); (focus rfl); (focus rfl); intro K hK; go_big_quiet_op; go_big_quiet_on))
  refine vfree_nil ?_
  intro w5 hb5 hk5
  have HW := Lib.hid (HW.out.trans (hb5.mono HW.out.size))
  clear hk5 hb5
  go_wp2
  simp [bodyPost, results, Try.results11, go_sem]
  exact ⟨rfl, HW.out⟩
set_option maxHeartbeats 4000000 in
set_option maxRecDepth 100000 in
theorem rpar_wide_ok (A : Option Addr) (m cA : Nat) (bs : List UInt8) (S : Nat → Prop) (c p s : Nat) (w : World) (hB : Bs w S A m bs) (hm : m ≤ 1000) (hL : 24 ≤ m) (hmc : m ≤ cA) (n1 : num ((bs.drop 4).take 4) = c) (n2 : num ((bs.drop 8).take 8) = p) (n3 : num ((bs.drop 16).take 8) = s) (h1 : p ≤ 33554432) (h2 : s ≤ 16777216) (q : Bool) (hq : (encD c p s true == bs.take 24) = q) :
    Calls Try.prog 11 #[.slice A m cA, .bool true] w (QP w q c p s) := by
  obtain ⟨bk, off, rfl, -, -, -⟩ := hB.at_ (i := 0) (by omega)
  have H1 := Lib.hid ((hB.drop (k := 4) (by omega)).take (k := 4) (by omega))
  have H2 := Lib.hid ((hB.drop (k := 8) (by omega)).take (k := 8) (by omega))
  have H3 := Lib.hid ((hB.drop (k := 16) (by omega)).take (k := 8) (by omega))
  have HB := Lib.hid (hB.take (k := 24) (by omega))
  have N1 := Lib.hid n1
  have N2 := Lib.hid n2
  have N3 := Lib.hid n3
  have hcb : c < 4294967296 := n1 ▸ num_bd bs _ 4 _ (by decide)
  have hsb : s < 18446744073709551616 := Nat.lt_of_lt_of_le (n3 ▸ num_bd bs _ 8 _ rfl) (by decide)
  have hpb : p < 18446744073709551616 := Nat.lt_of_lt_of_le (n2 ▸ num_bd bs _ 8 _ rfl) (by decide)
  have kc : IntKind.u32.wrap (c : Int) = (c : Int) := IntWalk.u32_in _ (by omega)
  have d1 : decide (m < 24) = false := by simpa using hL
  have d1' : decide ((m : Int) < 24) = false := by simp; omega
  have g1 : decide (33554432 < p) = false := by simpa using h1
  have g1' : decide ((33554432 : Int) < (p : Int)) = false := by simp; omega
  have g2 : decide (16777216 < s) = false := by simpa using h2
  have g2' : decide ((16777216 : Int) < (s : Int)) = false := by simp; omega
  have kp : IntKind.i64.wrap (p : Int) = (p : Int) := IntWalk.i64_in _ (by omega)
  have ks : IntKind.i64.wrap (s : Int) = (s : Int) := IntWalk.i64_in _ (by omega)
  have HE := Lib.hid (fun w => renc_wide c p s w hcb h1 h2)
  obtain ⟨D, hD⟩ : ∃ D, encD c p s true = D := ⟨_, rfl⟩
  obtain ⟨X, hX⟩ : ∃ X, bs.take 24 = X := ⟨_, rfl⟩
  rw [hD] at HE hq
  rw [hX] at HB hq
  have HQ := Lib.hid hq
  clear hD hX hq
  clear hB n1 n2 n3 hpb hsb
  go_enter Try.func11, Try.ntmps11
  go_wp2_with fail
  refine wp_region_free2 (mk := fun j => [2, 8, 16].any (Nat.beq j)) (by kernel_rfl) (by kernel_rfl) (by kernel_rfl) ?_
  iterate 2 (first | ((with_reducible refine vfree_skip rfl ?_ ?_); (focus rfl); intro K hK; go_big_quiet_op; go_big_quiet_on) | ((with_reducible refine vfree_hard ?_ ?_ ?_); (focus rfl); (focus rfl); intro K hK; go_big_quiet_op; go_big_quiet_on))
  refine vfree_one (.int .u64 (c : Nat)) rfl rfl rfl (fun w' hw' => ?_) ?_
  · have hb := hw'.1.below
    go_simp
    exact Calls.one_same (number_val _ 4 _ _ S w' c (H1.out.below hb) (by omega) N1.out)
  intro K hK
  go_big_quiet_op
  go_big_quiet_on
  iterate 5 (first | ((with_reducible refine vfree_skip rfl ?_ ?_); (focus rfl); intro K hK; go_big_quiet_op; go_big_quiet_on) | ((with_reducible refine vfree_hard ?_ ?_ ?_); (focus rfl); (focus rfl); intro K hK; go_big_quiet_op; go_big_quiet_on))
  refine vfree_one (.int .u64 (p : Nat)) rfl rfl rfl (fun w' hw' => ?_) ?_
  · have hb := hw'.1.below
    go_simp
    exact Calls.one_same (number_val _ 8 _ _ S w' p (H2.out.below hb) (by omega) N2.out)
  intro K hK
  go_big_quiet_op
  go_big_quiet_on
  iterate 7 (first | ((with_reducible refine vfree_skip rfl ?_ ?_); (focus rfl); intro K hK; go_big_quiet_op; go_big_quiet_on) | ((with_reducible refine vfree_hard ?_ ?_ ?_); (focus rfl); (focus rfl); intro K hK; go_big_quiet_op; go_big_quiet_on))
  refine vfree_one (.int .u64 (s : Nat)) rfl rfl rfl (fun w' hw' => ?_) ?_
  · have hb := hw'.1.below
    go_simp
    exact Calls.one_same (number_val _ 8 _ _ S w' s (H3.out.below hb) (by omega) N3.out)
  intro K hK
  go_big_quiet_op
  go_big_quiet_on
  iterate 3 (first | ((with_reducible refine vfree_skip rfl ?_ ?_); (focus rfl); intro K hK; go_big_quiet_op; go_big_quiet_on) | ((with_reducible refine vfree_hard ?_ ?_ ?_); (focus rfl); (focus rfl); intro K hK; go_big_quiet_op; go_big_quiet_on))
  refine vfree_nil ?_
  intro w4 hb4 hk4
  have HW := Lib.hid hb4
  have HB := Lib.hid (HB.out.below hb4)
  clear hk4 hb4
  go_wp2_with fail
  have k1 := fun mm => str_of (w := w4.over mm) cA (HB.out.below (World.over_below w4 mm))
  refine wp_region_free2 (mk := fun j => [].any (Nat.beq j)) (by kernel_rfl) (by kernel_rfl) (by kernel_rfl) ?_
  iterate 13 (first | ((with_reducible refine vfree_skip rfl ?_ ?_); (focus rfl); intro K hK; go_big_quiet_op; go_big_quiet_on) | ((with_reducible refine vfree_hard ?_ ?_ ?_); (focus rfl); (focus rfl); intro K hK; go_big_quiet_op; go_big_quiet_on))
  refine vfree_soft (ι := Option Addr × Nat) (fun i => .slice i.1 (24) i.2) (fun i w' => Bs w' (fun b => w4.heap.size ≤ b) i.1 (24) (D)) rfl rfl rfl (fun _ => firm_bs) (fun w' hw' => ?_) (fun i => ?_)
  · have hb := hw'.1.below
    go_simp
    refine (HE.out w').mono ?_
    rintro e w2 ⟨A', c', rfl, ho, hb2⟩
    exact ⟨hb2, (A', c'), rfl, (Bs.of_own ho).mono fun b h => by have := hb.size; omega⟩
  obtain ⟨A9, c9⟩ := i
  dsimp only
  intro K hK
  go_big_quiet_op
  go_big_quiet_on
  refine vfree_fact (.string ⟨D.toArray⟩) rfl rfl rfl (fun w' hw' => ?_) ?_
  · have hf := str_of c9 (hw'.2 13 (by kernel_rfl)).1
    clear hw'
    go_simp
  intro K hK
  go_big_quiet_op
  go_big_quiet_on
  iterate 8 (first | ((with_reducible refine vfree_skip rfl ?_ ?_); (focus rfl); intro K hK; go_big_quiet_op; go_big_quiet_on) | ((with_reducible refine vfree_hard ?_ ?_ ?_); (focus rfl); (focus rfl); intro K hK; go_big_quiet_op; go_big_quiet_on))
  refine vfree_nil ?_
  intro w5 hb5 hk5
  have HW := Lib.hid (HW.out.trans (hb5.mono HW.out.size))
  clear hk5 hb5 k1
  by_cases hDX : D = X
  · subst hDX
    have hq1 : q = true := by rw [← HQ.out]; simp
    subst hq1
    go_wp2
    all_goals first
      | (rename_i hx; exfalso; revert hx; simp; done)
      | (simp [bodyPost, results, Try.results11, go_sem]; exact ⟨rfl, HW.out⟩)
  · have e7 : (D == X) = false := beq_eq_false_iff_ne.2 hDX
    have hq1 : q = false := by rw [← HQ.out]; exact e7
    subst hq1
    go_wp2
    all_goals first
      | (rename_i hx; exfalso; revert hx; simp [e7]; done)
      | (simp [bodyPost, results, Try.results11, go_sem]; exact ⟨rfl, HW.out⟩)
set_option maxHeartbeats 4000000 in
set_option maxRecDepth 100000 in
theorem rpar_wide_p (A : Option Addr) (m cA : Nat) (bs : List UInt8) (S : Nat → Prop) (c p s : Nat) (w : World) (hB : Bs w S A m bs) (hm : m ≤ 1000) (hL : 24 ≤ m) (hmc : m ≤ cA) (n1 : num ((bs.drop 4).take 4) = c) (n2 : num ((bs.drop 8).take 8) = p) (n3 : num ((bs.drop 16).take 8) = s) (h1 : 33554432 < p) :
    Calls Try.prog 11 #[.slice A m cA, .bool true] w (QP w false c p s) := by
  obtain ⟨bk, off, rfl, -, -, -⟩ := hB.at_ (i := 0) (by omega)
  have H1 := Lib.hid ((hB.drop (k := 4) (by omega)).take (k := 4) (by omega))
  have H2 := Lib.hid ((hB.drop (k := 8) (by omega)).take (k := 8) (by omega))
  have H3 := Lib.hid ((hB.drop (k := 16) (by omega)).take (k := 8) (by omega))
  have HB := Lib.hid (hB.take (k := 24) (by omega))
  have N1 := Lib.hid n1
  have N2 := Lib.hid n2
  have N3 := Lib.hid n3
  have hcb : c < 4294967296 := n1 ▸ num_bd bs _ 4 _ (by decide)
  have hsb : s < 18446744073709551616 := Nat.lt_of_lt_of_le (n3 ▸ num_bd bs _ 8 _ rfl) (by decide)
  have hpb : p < 18446744073709551616 := Nat.lt_of_lt_of_le (n2 ▸ num_bd bs _ 8 _ rfl) (by decide)
  have kc : IntKind.u32.wrap (c : Int) = (c : Int) := IntWalk.u32_in _ (by omega)
  have d1 : decide (m < 24) = false := by simpa using hL
  have d1' : decide ((m : Int) < 24) = false := by simp; omega
  have g1 : decide (33554432 < p) = true := by simpa using h1
  have g1' : decide ((33554432 : Int) < (p : Int)) = true := by simp; omega
  clear hB n1 n2 n3 hpb hsb
  go_enter Try.func11, Try.ntmps11
  go_wp2_with fail
  refine wp_region_free2 (mk := fun j => [2, 8, 16].any (Nat.beq j)) (by kernel_rfl) (by kernel_rfl) (by kernel_rfl) ?_
  iterate 2 (first | ((with_reducible refine vfree_skip rfl ?_ ?_); (focus rfl); intro K hK; go_big_quiet_op; go_big_quiet_on) | ((with_reducible refine vfree_hard ?_ ?_ ?_); (focus rfl); (focus rfl); intro K hK; go_big_quiet_op; go_big_quiet_on))
  refine vfree_one (.int .u64 (c : Nat)) rfl rfl rfl (fun w' hw' => ?_) ?_
  · have hb := hw'.1.below
    go_simp
    exact Calls.one_same (number_val _ 4 _ _ S w' c (H1.out.below hb) (by omega) N1.out)
  intro K hK
  go_big_quiet_op
  go_big_quiet_on
  iterate 5 (first | ((with_reducible refine vfree_skip rfl ?_ ?_); (focus rfl); intro K hK; go_big_quiet_op; go_big_quiet_on) | ((with_reducible refine vfree_hard ?_ ?_ ?_); (focus rfl); (focus rfl); intro K hK; go_big_quiet_op; go_big_quiet_on))
  refine vfree_one (.int .u64 (p : Nat)) rfl rfl rfl (fun w' hw' => ?_) ?_
  · have hb := hw'.1.below
    go_simp
    exact Calls.one_same (number_val _ 8 _ _ S w' p (H2.out.below hb) (by omega) N2.out)
  intro K hK
  go_big_quiet_op
  go_big_quiet_on
  iterate 7 (first | ((with_reducible refine vfree_skip rfl ?_ ?_); (focus rfl); intro K hK; go_big_quiet_op; go_big_quiet_on) | ((with_reducible refine vfree_hard ?_ ?_ ?_); (focus rfl); (focus rfl); intro K hK; go_big_quiet_op; go_big_quiet_on))
  refine vfree_one (.int .u64 (s : Nat)) rfl rfl rfl (fun w' hw' => ?_) ?_
  · have hb := hw'.1.below
    go_simp
    exact Calls.one_same (number_val _ 8 _ _ S w' s (H3.out.below hb) (by omega) N3.out)
  intro K hK
  go_big_quiet_op
  go_big_quiet_on
  iterate 3 (first | ((with_reducible refine vfree_skip rfl ?_ ?_); (focus rfl); intro K hK; go_big_quiet_op; go_big_quiet_on) | ((with_reducible refine vfree_hard ?_ ?_ ?_); (focus rfl); (focus rfl); intro K hK; go_big_quiet_op; go_big_quiet_on))
  refine vfree_nil ?_
  intro w4 hb4 hk4
  have HW := Lib.hid hb4
  have HB := Lib.hid (HB.out.below hb4)
  clear hk4 hb4
  go_wp2_with fail
  refine wp_region_free2 (mk := fun j => [13].any (Nat.beq j)) (by kernel_rfl) (by kernel_rfl) (by kernel_rfl) ?_
  iterate 23 (first | ((with_reducible refine vfree_skip rfl ?_ ?_); (focus rfl); intro K hK; go_big_quiet_op; go_big_quiet_on) | ((with_reducible refine vfree_hard ?_ ?_ ?_); (focus rfl); (focus rfl); intro K hK; go_big_quiet_op; go_big_quiet_on))
  refine vfree_nil ?_
  intro w5 hb5 hk5
  have HW := Lib.hid (HW.out.trans (hb5.mono HW.out.size))
  clear hk5 hb5
  go_wp2
  simp [bodyPost, results, Try.results11, go_sem]
  exact ⟨rfl, HW.out⟩
set_option maxHeartbeats 4000000 in
set_option maxRecDepth 100000 in
theorem rpar_wide_s (A : Option Addr) (m cA : Nat) (bs : List UInt8) (S : Nat → Prop) (c p s : Nat) (w : World) (hB : Bs w S A m bs) (hm : m ≤ 1000) (hL : 24 ≤ m) (hmc : m ≤ cA) (n1 : num ((bs.drop 4).take 4) = c) (n2 : num ((bs.drop 8).take 8) = p) (n3 : num ((bs.drop 16).take 8) = s) (h1 : p ≤ 33554432) (h2 : 16777216 < s) :
    Calls Try.prog 11 #[.slice A m cA, .bool true] w (QP w false c p s) := by
  obtain ⟨bk, off, rfl, -, -, -⟩ := hB.at_ (i := 0) (by omega)
  have H1 := Lib.hid ((hB.drop (k := 4) (by omega)).take (k := 4) (by omega))
  have H2 := Lib.hid ((hB.drop (k := 8) (by omega)).take (k := 8) (by omega))
  have H3 := Lib.hid ((hB.drop (k := 16) (by omega)).take (k := 8) (by omega))
  have HB := Lib.hid (hB.take (k := 24) (by omega))
  have N1 := Lib.hid n1
  have N2 := Lib.hid n2
  have N3 := Lib.hid n3
  have hcb : c < 4294967296 := n1 ▸ num_bd bs _ 4 _ (by decide)
  have hsb : s < 18446744073709551616 := Nat.lt_of_lt_of_le (n3 ▸ num_bd bs _ 8 _ rfl) (by decide)
  have hpb : p < 18446744073709551616 := Nat.lt_of_lt_of_le (n2 ▸ num_bd bs _ 8 _ rfl) (by decide)
  have kc : IntKind.u32.wrap (c : Int) = (c : Int) := IntWalk.u32_in _ (by omega)
  have d1 : decide (m < 24) = false := by simpa using hL
  have d1' : decide ((m : Int) < 24) = false := by simp; omega
  have g1 : decide (33554432 < p) = false := by simpa using h1
  have g1' : decide ((33554432 : Int) < (p : Int)) = false := by simp; omega
  have g2 : decide (16777216 < s) = true := by simpa using h2
  have g2' : decide ((16777216 : Int) < (s : Int)) = true := by simp; omega
  clear hB n1 n2 n3 hpb hsb
  go_enter Try.func11, Try.ntmps11
  go_wp2_with fail
  refine wp_region_free2 (mk := fun j => [2, 8, 16].any (Nat.beq j)) (by kernel_rfl) (by kernel_rfl) (by kernel_rfl) ?_
  iterate 2 (first | ((with_reducible refine vfree_skip rfl ?_ ?_); (focus rfl); intro K hK; go_big_quiet_op; go_big_quiet_on) | ((with_reducible refine vfree_hard ?_ ?_ ?_); (focus rfl); (focus rfl); intro K hK; go_big_quiet_op; go_big_quiet_on))
  refine vfree_one (.int .u64 (c : Nat)) rfl rfl rfl (fun w' hw' => ?_) ?_
  · have hb := hw'.1.below
    go_simp
    exact Calls.one_same (number_val _ 4 _ _ S w' c (H1.out.below hb) (by omega) N1.out)
  intro K hK
  go_big_quiet_op
  go_big_quiet_on
  iterate 5 (first | ((with_reducible refine vfree_skip rfl ?_ ?_); (focus rfl); intro K hK; go_big_quiet_op; go_big_quiet_on) | ((with_reducible refine vfree_hard ?_ ?_ ?_); (focus rfl); (focus rfl); intro K hK; go_big_quiet_op; go_big_quiet_on))
  refine vfree_one (.int .u64 (p : Nat)) rfl rfl rfl (fun w' hw' => ?_) ?_
  · have hb := hw'.1.below
    go_simp
    exact Calls.one_same (number_val _ 8 _ _ S w' p (H2.out.below hb) (by omega) N2.out)
  intro K hK
  go_big_quiet_op
  go_big_quiet_on
  iterate 7 (first | ((with_reducible refine vfree_skip rfl ?_ ?_); (focus rfl); intro K hK; go_big_quiet_op; go_big_quiet_on) | ((with_reducible refine vfree_hard ?_ ?_ ?_); (focus rfl); (focus rfl); intro K hK; go_big_quiet_op; go_big_quiet_on))
  refine vfree_one (.int .u64 (s : Nat)) rfl rfl rfl (fun w' hw' => ?_) ?_
  · have hb := hw'.1.below
    go_simp
    exact Calls.one_same (number_val _ 8 _ _ S w' s (H3.out.below hb) (by omega) N3.out)
  intro K hK
  go_big_quiet_op
  go_big_quiet_on
  iterate 3 (first | ((with_reducible refine vfree_skip rfl ?_ ?_); (focus rfl); intro K hK; go_big_quiet_op; go_big_quiet_on) | ((with_reducible refine vfree_hard ?_ ?_ ?_); (focus rfl); (focus rfl); intro K hK; go_big_quiet_op; go_big_quiet_on))
  refine vfree_nil ?_
  intro w4 hb4 hk4
  have HW := Lib.hid hb4
  have HB := Lib.hid (HB.out.below hb4)
  clear hk4 hb4
  go_wp2_with fail
  refine wp_region_free2 (mk := fun j => [13].any (Nat.beq j)) (by kernel_rfl) (by kernel_rfl) (by kernel_rfl) ?_
  iterate 23 (first | ((with_reducible refine vfree_skip rfl ?_ ?_); (focus rfl); intro K hK; go_big_quiet_op; go_big_quiet_on) | ((with_reducible refine vfree_hard ?_ ?_ ?_); (focus rfl); (focus rfl); intro K hK; go_big_quiet_op; go_big_quiet_on))
  refine vfree_nil ?_
  intro w5 hb5 hk5
  have HW := Lib.hid (HW.out.trans (hb5.mono HW.out.size))
  clear hk5 hb5
  go_wp2
  simp [bodyPost, results, Try.results11, go_sem]
  exact ⟨rfl, HW.out⟩
end Go.Proofs.Ytafdflpjfdeohaa
