/- The page's Parse, wide. -/
import Derived.Test.YtgjkkapopjpohaaH5
namespace Go.Proofs.Ytgjkkapopjpohaa
open Go.RowKit

theorem okT_wide {N s a : Nat} {iN is ia : Int} (j1 : wideI N = iN) (j2 : wideI s = is) (j3 : wideI a = ia) (h : okT iN is ia = true) : iN = (N : Int) ∧ is = (s : Int) ∧ ia = (a : Int) ∧ N ≤ 1000 ∧ s < 4294967295 ∧ a < 4294967295 := by
  unfold okT at h
  simp at h
  subst j1 j2 j3
  unfold wideI at *
  split at h <;> split at h <;> split at h <;> refine ⟨?_, ?_, ?_, ?_, ?_, ?_⟩ <;> first | omega | (simp [*]; done) | (simp [*]; omega)
theorem rwide_val (A : Option Addr) (n c : Nat) (bs : List UInt8) (S : Nat → Prop) (w : World) (v : Nat) (i : Int) (hB : Bs w S A n bs) (hn : n ≤ 8) (hv : num bs = v) (hi : wideI v = i) : Calls Try.prog 21 #[.slice A n c] w fun e w' => e = .returned (.int .i64 i) ∧ w = w' := by
  have := rwide_any A n c bs S w v hB hn hv
  rwa [hi] at this
theorem ends_q_wide (A : Option Addr) (n c : Nat) (bs : List UInt8) (S : Nat → Prop) (N s a : Nat) (iN is ia : Int) (w : World) (hB : Bs w S A n bs) (hn : n ≤ 1000) (h98 : 98 ≤ n) (hnc : n ≤ c) (j1 : wideI N = iN) (j2 : wideI s = is) (j3 : wideI a = ia) (q : Bool) (hq : (okT iN is ia && (bs.drop (n - 98) == enc N s a true)) = q) :
    Calls Try.prog 22 #[.slice A n c, tl iN is ia true] w (EndP w q) := by
  cases hok : okT iN is ia
  · rw [hok, Bool.false_and] at hq
    subst hq
    exact ends_bad A n c iN is ia true w hok
  · rw [hok, Bool.true_and] at hq
    obtain ⟨rfl, rfl, rfl, b1, b2, b3⟩ := okT_wide j1 j2 j3 hok
    exact ends_wide A n c bs S N s a w hB hn hnc b1 b2 b3 q (by rw [show decide (98 ≤ n) = true by simpa using h98, Bool.true_and]; exact hq)
set_option maxHeartbeats 8000000 in
set_option maxRecDepth 100000 in
theorem rparse_wide (A : Option Addr) (n c : Nat) (bs : List UInt8) (S : Nat → Prop) (w : World) (hS : ∀ b, S b → b < w.heap.size) (E : List UInt8) (u x y : Nat) (hB : Bs w S A n bs) (hn : n ≤ 1000) (h22 : 22 ≤ n) (hnc : n ≤ c) (hE : bs.drop (n - 22) = E) (n2 : num ((E.drop 8).take 2) = u) (n4 : num ((E.drop 12).take 4) = x) (n5 : num ((E.drop 16).take 4) = y) (f0 : (u == 65535) = true) (F : List UInt8) (N s a : Nat) (iN is ia : Int) (h98 : 98 ≤ n) (hF : bs.drop (n - 98) = F) (m1 : num ((F.drop 24).take 8) = N) (m2 : num ((F.drop 40).take 8) = s) (m3 : num ((F.drop 48).take 8) = a) (j1 : wideI N = iN) (j2 : wideI s = is) (j3 : wideI a = ia) (q : Bool) (hq : (okT iN is ia && (F == enc N s a true)) = q) :
    Calls Try.prog 13 #[.slice A n c] w (RQ w q (tl iN is ia true) 98) := by
  obtain ⟨b, off, rfl, -, -, -⟩ := hB.at_ (i := 0) (by omega)
  obtain ⟨m, hm⟩ : ∃ m, n - 22 = m := ⟨_, rfl⟩
  obtain ⟨w0, hw0⟩ : ∃ w0, w.alloc (.cells #[.int .i64 0, .int .i64 0, .int .i64 0, .bool false] 30) = w0 := ⟨_, rfl⟩
  have HW0 : Hid (Below w.heap.size w w0) := Lib.hid (hw0 ▸ (Below.refl _ _).alloc (Nat.le_refl _) _)
  have HZ : Hid (Whole w0 w.heap.size 30 #[.int .i64 0, .int .i64 0, .int .i64 0, .bool false]) := Lib.hid (hw0 ▸ Whole.new w 30 _ rfl)
  have hlt0 := HZ.out.lt
  have HBS : Hid (Bs w0 S (some ⟨b, off, none⟩) n bs) := Lib.hid (hw0 ▸ hB.alloc _)
  have hcut := HBS.out.cut (k := m) (c := c) (by omega) hnc
  rw [if_neg (by omega), ← hm, hE, hm, show n - m = 22 by omega] at hcut
  have H2 := Lib.hid ((hcut.drop (k := 8) (by omega)).take (k := 2) (by omega))
  have H4 := Lib.hid ((hcut.drop (k := 12) (by omega)).take (k := 4) (by omega))
  have H5 := Lib.hid ((hcut.drop (k := 16) (by omega)).take (k := 4) (by omega))
  have hub : u < 65536 := n2 ▸ num_bd E _ 2 _ (by decide)
  have hxb : x < 4294967296 := n4 ▸ num_bd E _ 4 _ (by decide)
  have hyb : y < 4294967296 := n5 ▸ num_bd E _ 4 _ (by decide)
  obtain ⟨HEND⟩ : Nonempty (Hid (∀ w', Bs w' S (some ⟨b, off, none⟩) n bs → Calls Try.prog 22 #[.slice (some ⟨b, off, none⟩) n c, tl iN is ia true] w' (EndP w' q))) := ⟨Lib.hid (fun w' hB' => ends_q_wide (some ⟨b, off, none⟩) n c bs S N s a iN is ia w' hB' hn h98 hnc j1 j2 j3 q (by rw [hF]; exact hq))⟩
  obtain ⟨HEN⟩ : Nonempty (Hid (q = true → ∀ w', Calls Try.prog 11 #[tl iN is ia true] w' (RetO w' 98 (enc N s a true)))) := ⟨Lib.hid (fun h w' => by
    rw [h] at hq
    simp only [Bool.and_eq_true] at hq
    obtain ⟨e1, e2, e3, b1, b2, b3⟩ := okT_wide j1 j2 j3 hq.1
    rw [enc_eq, e1, e2, e3]
    exact renc_wide N s a w' b1 b2 b3)⟩
  obtain ⟨m9, hm9⟩ : ∃ m, n - 98 = m := ⟨_, rfl⟩
  have HF := Lib.hid (show bs.drop m9 = F by rw [← hm9]; exact hF)
  have M1 := Lib.hid m1
  have M2 := Lib.hid m2
  have M3 := Lib.hid m3
  have J1 := Lib.hid j1
  have J2 := Lib.hid j2
  have J3 := Lib.hid j3
  have f0' : ((u : Int) == 65535) = true := by rw [beq_iff_eq] at f0 ⊢; omega
  have d2 : decide (98 ≤ n) = true := by simpa using h98
  have d2' : decide ((98 : Int) ≤ (n : Int)) = true := by simp; omega
  have z1 : IntKind.i64.wrap ((n : Int) - 98) = (m9 : Int) := by rw [IntWalk.i64_in _ (by omega)]; omega
  have z1' : ((n : Int) - 98) = (m9 : Int) := by omega
  have z2 : n - m9 = 98 := by omega
  have zmn : (m9 : Int) ≤ (n : Int) := by omega
  have zcm : ¬ c = m9 := by omega
  obtain ⟨C9, hC9⟩ : ∃ C, c - m9 = C := ⟨_, rfl⟩
  have hC98 : 98 ≤ C9 := by omega
  have HC9 := Lib.hid hC9
  clear hC9 hm9 hF m1 m2 m3 j1 j2 j3
  have N2 := Lib.hid n2
  have N4 := Lib.hid n4
  have N5 := Lib.hid n5
  have d1 : decide (n < 22) = false := by simpa using h22
  have d1' : decide ((n : Int) < 22) = false := by simp; omega
  have e1 : IntKind.i64.wrap ((n : Int) - 22) = (m : Int) := by rw [IntWalk.i64_in _ (by omega)]; omega
  have e1' : ((n : Int) - 22) = (m : Int) := by omega
  have e2 : n - m = 22 := by omega
  have hmn : (m : Int) ≤ (n : Int) := by omega
  have hcm : ¬ c = m := by omega
  obtain ⟨C, hC⟩ : ∃ C, c - m = C := ⟨_, rfl⟩
  have hC22 : 22 ≤ C := by omega
  have kN : IntKind.i64.wrap (u : Int) = (u : Int) := IntWalk.i64_in _ (by omega)
  have ks : IntKind.i64.wrap (x : Int) = (x : Int) := IntWalk.i64_in _ (by omega)
  have ka : IntKind.i64.wrap (y : Int) = (y : Int) := IntWalk.i64_in _ (by omega)
  have HE0 := Lib.hid hw0
  have HS := Lib.hid hS
  clear hS
  have HC0 := Lib.hid hC
  clear hq hE hcut hm hB n2 n4 n5 hw0 hC
  go_enter Try.func13, Try.ntmps13
  go_wp2_with fail
  rw [HE0.out, HC0.out]
  refine wp_region_free_tail2 14 [2, 6, 10, 12] (by kernel_rfl) (by kernel_rfl) (by kernel_rfl) (by kernel_rfl) ?_
  iterate 2 (first | (refine vfree_skip rfl rfl ?_; intro K hK; go_big_quiet_op; go_big_quiet_on) | (refine vfree_hard rfl rfl ?_; intro K hK; go_big_quiet_op; go_big_quiet_on))
  refine vfree_one (.int .u64 (u : Nat)) rfl rfl rfl (fun w' hw' => ?_) ?_
  · have hb := hw'.1.below
    go_simp
    exact Calls.one_same (number_val _ 2 _ _ S w' u (H2.out.below hb) (by omega) N2.out)
  intro K hK
  go_big_quiet_op
  go_big_quiet_on
  iterate 3 (first | (refine vfree_skip rfl rfl ?_; intro K hK; go_big_quiet_op; go_big_quiet_on) | (refine vfree_hard rfl rfl ?_; intro K hK; go_big_quiet_op; go_big_quiet_on))
  refine vfree_one (.int .u64 (x : Nat)) rfl rfl rfl (fun w' hw' => ?_) ?_
  · have hb := hw'.1.below
    go_simp
    exact Calls.one_same (number_val _ 4 _ _ S w' x (H4.out.below hb) (by omega) N4.out)
  intro K hK
  go_big_quiet_op
  go_big_quiet_on
  iterate 3 (first | (refine vfree_skip rfl rfl ?_; intro K hK; go_big_quiet_op; go_big_quiet_on) | (refine vfree_hard rfl rfl ?_; intro K hK; go_big_quiet_op; go_big_quiet_on))
  refine vfree_one (.int .u64 (y : Nat)) rfl rfl rfl (fun w' hw' => ?_) ?_
  · have hb := hw'.1.below
    go_simp
    exact Calls.one_same (number_val _ 4 _ _ S w' y (H5.out.below hb) (by omega) N5.out)
  intro K hK
  go_big_quiet_op
  go_big_quiet_on
  iterate 1 (first | (refine vfree_skip rfl rfl ?_; intro K hK; go_big_quiet_op; go_big_quiet_on) | (refine vfree_hard rfl rfl ?_; intro K hK; go_big_quiet_op; go_big_quiet_on))
  refine vfree_one (tl u x y false) rfl rfl rfl (fun w' hw' => ?_) ?_
  · clear hw'
    go_simp
    exact ⟨Below.refl _ _, rfl⟩
  intro K hK
  go_big_quiet_op
  go_big_quiet_on
  refine vfree_soft (ι := Nat) (fun i => .pointer (some ⟨i, 0, none⟩)) (fun i w' => w0.heap.size ≤ i ∧ Whole w' i 30 #[.int .i64 0, .int .i64 0, .int .i64 0, .bool false]) rfl rfl rfl (fun _ => fun _ _ h he => ⟨h.1, h.2.below' he⟩) (fun w' hw' => ?_) (fun T => ?_)
  · have hb := hw'.1.below
    clear hw'
    go_simp
    exact ⟨(Below.refl _ _).alloc (Nat.le_refl _) _, w'.heap.size, rfl, hb.size, Whole.new w' 30 _ rfl⟩
  intro K hK
  go_big_quiet_op
  go_big_quiet_on
  refine vfree_nil ?_
  intro w4 hb4 hk4
  obtain ⟨hT, hX⟩ := (hk4 13).1
  have HB := Lib.hid (HW0.out.trans (hb4.mono HW0.out.size))
  have HX := Lib.hid hX
  have HZ := Lib.hid (HZ.out.below' hb4)
  have HBS := Lib.hid (HBS.out.below hb4)
  have hwT : w.heap.size < T := by omega
  clear hk4 hb4 hX
  have x0 := HX.out.cell 0
  have x1 := HX.out.cell 1
  have x2 := HX.out.cell 2
  have x3 := HX.out.cell 3
  have fx0 := HX.out.free 0
  have fx1 := HX.out.free 1
  have fx2 := HX.out.free 2
  have fx3 := HX.out.free 3
  simp at x0 x1 x2 x3
  go_wp2_with fail
  have HX := Lib.hid (HX.out.put 0 (.int .i64 (u : Nat)) rfl)
  have HBS := Lib.hid (HBS.out.put (p := ⟨T, 0, none⟩) (.int .i64 (u : Nat)) (fun b hb => by have := HS.out b hb; show b ≠ T; omega))
  have HZ := Lib.hid (HZ.out.other (p := ⟨T, 0, none⟩) (by show w.heap.size ≠ T; omega) (.int .i64 (u : Nat)))
  have HB := Lib.hid (HB.out.setCell (p := ⟨T, 0, none⟩) (by show w.heap.size ≤ T; omega) (.int .i64 (u : Nat)))
  have HX := Lib.hid (HX.out.put 1 (.int .i64 (x : Nat)) rfl)
  have HBS := Lib.hid (HBS.out.put (p := ⟨T, 1, none⟩) (.int .i64 (x : Nat)) (fun b hb => by have := HS.out b hb; show b ≠ T; omega))
  have HZ := Lib.hid (HZ.out.other (p := ⟨T, 1, none⟩) (by show w.heap.size ≠ T; omega) (.int .i64 (x : Nat)))
  have HB := Lib.hid (HB.out.setCell (p := ⟨T, 1, none⟩) (by show w.heap.size ≤ T; omega) (.int .i64 (x : Nat)))
  have HX := Lib.hid (HX.out.put 2 (.int .i64 (y : Nat)) rfl)
  have HBS := Lib.hid (HBS.out.put (p := ⟨T, 2, none⟩) (.int .i64 (y : Nat)) (fun b hb => by have := HS.out b hb; show b ≠ T; omega))
  have HZ := Lib.hid (HZ.out.other (p := ⟨T, 2, none⟩) (by show w.heap.size ≠ T; omega) (.int .i64 (y : Nat)))
  have HB := Lib.hid (HB.out.setCell (p := ⟨T, 2, none⟩) (by show w.heap.size ≤ T; omega) (.int .i64 (y : Nat)))
  have HX := Lib.hid (HX.out.put 3 (.bool false) rfl)
  have HBS := Lib.hid (HBS.out.put (p := ⟨T, 3, none⟩) (.bool false) (fun b hb => by have := HS.out b hb; show b ≠ T; omega))
  have HZ := Lib.hid (HZ.out.other (p := ⟨T, 3, none⟩) (by show w.heap.size ≠ T; omega) (.bool false))
  have HB := Lib.hid (HB.out.setCell (p := ⟨T, 3, none⟩) (by show w.heap.size ≤ T; omega) (.bool false))
  generalize ((((w4.setCell ⟨T, 0, none⟩ (.int .i64 (u : Nat))).setCell ⟨T, 1, none⟩ (.int .i64 (x : Nat))).setCell ⟨T, 2, none⟩ (.int .i64 (y : Nat))).setCell ⟨T, 3, none⟩ (.bool false)) = w8 at HX HBS HZ HB ⊢
  have hcut9 := HBS.out.cut (k := m9) (c := c) (by omega) hnc
  rw [if_neg (by omega), HF.out, z2] at hcut9
  have G1 := Lib.hid ((hcut9.drop (k := 24) (by omega)).take (k := 8) (by omega))
  have G2 := Lib.hid ((hcut9.drop (k := 40) (by omega)).take (k := 8) (by omega))
  have G3 := Lib.hid ((hcut9.drop (k := 48) (by omega)).take (k := 8) (by omega))
  clear hcut9
  rw [HC9.out]
  have x0 := HX.out.cell 0
  have x1 := HX.out.cell 1
  have x2 := HX.out.cell 2
  have x3 := HX.out.cell 3
  have fx0 := HX.out.free 0
  have fx1 := HX.out.free 1
  have fx2 := HX.out.free 2
  have fx3 := HX.out.free 3
  simp at x0 x1 x2 x3
  have f1 := HX.out.free 0
  have f2 := HX.out.free 1
  have f3 := HX.out.free 2
  have f4 := HX.out.free 3
  refine wp_region_free_tail2 10 [2, 5, 8, 9] (by kernel_rfl) (by kernel_rfl) (by kernel_rfl) (by kernel_rfl) ?_
  iterate 2 (first | (refine vfree_skip rfl rfl ?_; intro K hK; go_big_quiet_op; go_big_quiet_on) | (refine vfree_hard rfl rfl ?_; intro K hK; go_big_quiet_op; go_big_quiet_on))
  refine vfree_one (.int .i64 iN) rfl rfl rfl (fun w' hw' => ?_) ?_
  · have hb := hw'.1.below
    go_simp
    exact Calls.one_same (rwide_val _ 8 _ _ S w' _ iN (G1.out.below hb) (by omega) M1.out J1.out)
  intro K hK
  go_big_quiet_op
  go_big_quiet_on
  iterate 2 (first | (refine vfree_skip rfl rfl ?_; intro K hK; go_big_quiet_op; go_big_quiet_on) | (refine vfree_hard rfl rfl ?_; intro K hK; go_big_quiet_op; go_big_quiet_on))
  refine vfree_one (.int .i64 is) rfl rfl rfl (fun w' hw' => ?_) ?_
  · have hb := hw'.1.below
    go_simp
    exact Calls.one_same (rwide_val _ 8 _ _ S w' _ is (G2.out.below hb) (by omega) M2.out J2.out)
  intro K hK
  go_big_quiet_op
  go_big_quiet_on
  iterate 2 (first | (refine vfree_skip rfl rfl ?_; intro K hK; go_big_quiet_op; go_big_quiet_on) | (refine vfree_hard rfl rfl ?_; intro K hK; go_big_quiet_op; go_big_quiet_on))
  refine vfree_one (.int .i64 ia) rfl rfl rfl (fun w' hw' => ?_) ?_
  · have hb := hw'.1.below
    go_simp
    exact Calls.one_same (rwide_val _ 8 _ _ S w' _ ia (G3.out.below hb) (by omega) M3.out J3.out)
  intro K hK
  go_big_quiet_op
  go_big_quiet_on
  refine vfree_one (tl iN is ia true) rfl rfl rfl (fun w' hw' => ?_) ?_
  · clear hw'
    go_simp
    exact ⟨Below.refl _ _, rfl⟩
  intro K hK
  go_big_quiet_op
  go_big_quiet_on
  refine vfree_nil ?_
  intro w4b hb4 hk4
  have HB := Lib.hid (HB.out.trans (hb4.mono HB.out.size))
  have HX := Lib.hid (HX.out.below' hb4)
  have HZ := Lib.hid (HZ.out.below' hb4)
  have HBS := Lib.hid (HBS.out.below hb4)
  clear hk4 hb4
  have x0 := HX.out.cell 0
  have x1 := HX.out.cell 1
  have x2 := HX.out.cell 2
  have x3 := HX.out.cell 3
  have fx0 := HX.out.free 0
  have fx1 := HX.out.free 1
  have fx2 := HX.out.free 2
  have fx3 := HX.out.free 3
  simp at x0 x1 x2 x3
  go_wp2_with fail
  have HX := Lib.hid (HX.out.put 0 (.int .i64 iN) rfl)
  have HBS := Lib.hid (HBS.out.put (p := ⟨T, 0, none⟩) (.int .i64 iN) (fun b hb => by have := HS.out b hb; show b ≠ T; omega))
  have HZ := Lib.hid (HZ.out.other (p := ⟨T, 0, none⟩) (by show w.heap.size ≠ T; omega) (.int .i64 iN))
  have HB := Lib.hid (HB.out.setCell (p := ⟨T, 0, none⟩) (by show w.heap.size ≤ T; omega) (.int .i64 iN))
  have HX := Lib.hid (HX.out.put 1 (.int .i64 is) rfl)
  have HBS := Lib.hid (HBS.out.put (p := ⟨T, 1, none⟩) (.int .i64 is) (fun b hb => by have := HS.out b hb; show b ≠ T; omega))
  have HZ := Lib.hid (HZ.out.other (p := ⟨T, 1, none⟩) (by show w.heap.size ≠ T; omega) (.int .i64 is))
  have HB := Lib.hid (HB.out.setCell (p := ⟨T, 1, none⟩) (by show w.heap.size ≤ T; omega) (.int .i64 is))
  have HX := Lib.hid (HX.out.put 2 (.int .i64 ia) rfl)
  have HBS := Lib.hid (HBS.out.put (p := ⟨T, 2, none⟩) (.int .i64 ia) (fun b hb => by have := HS.out b hb; show b ≠ T; omega))
  have HZ := Lib.hid (HZ.out.other (p := ⟨T, 2, none⟩) (by show w.heap.size ≠ T; omega) (.int .i64 ia))
  have HB := Lib.hid (HB.out.setCell (p := ⟨T, 2, none⟩) (by show w.heap.size ≤ T; omega) (.int .i64 ia))
  have HX := Lib.hid (HX.out.put 3 (.bool true) rfl)
  have HBS := Lib.hid (HBS.out.put (p := ⟨T, 3, none⟩) (.bool true) (fun b hb => by have := HS.out b hb; show b ≠ T; omega))
  have HZ := Lib.hid (HZ.out.other (p := ⟨T, 3, none⟩) (by show w.heap.size ≠ T; omega) (.bool true))
  have HB := Lib.hid (HB.out.setCell (p := ⟨T, 3, none⟩) (by show w.heap.size ≤ T; omega) (.bool true))
  generalize ((((w4b.setCell ⟨T, 0, none⟩ (.int .i64 iN)).setCell ⟨T, 1, none⟩ (.int .i64 is)).setCell ⟨T, 2, none⟩ (.int .i64 ia)).setCell ⟨T, 3, none⟩ (.bool true)) = w9 at HX HBS HZ HB ⊢
  refine (HEND.out _ HBS.out).mono ?_
  rintro e w5 ⟨rfl, hb5⟩
  have HB := Lib.hid (HB.out.trans (hb5.mono HB.out.size))
  have HX := Lib.hid (HX.out.below' hb5)
  have HZ := Lib.hid (HZ.out.below' hb5)
  clear hb5
  have x0 := HX.out.cell 0
  have x1 := HX.out.cell 1
  have x2 := HX.out.cell 2
  have x3 := HX.out.cell 3
  have fx0 := HX.out.free 0
  have fx1 := HX.out.free 1
  have fx2 := HX.out.free 2
  have fx3 := HX.out.free 3
  simp at x0 x1 x2 x3
  cases q
  rotate_left
  · have HE := Lib.hid (HEN.out rfl)
    have hlX := HX.out.lt
    have hlZ := HZ.out.lt
    go_wp2
    have HX := Lib.hid (HX.out.drew)
    have HZ := Lib.hid (HZ.out.drew)
    have HB := Lib.hid (HB.out.drew)
    go_region_law (first
      | (go_simp
         go_at_call 11
         refine (HE.out _).mono ?_
         rintro e w6 ⟨A9, c9, rfl, -, hb6⟩
         have HX := Lib.hid (HX.out.below' hb6)
         have HB := Lib.hid (HB.out.trans (hb6.mono HB.out.size))
         have HZ := Lib.hid (HZ.out.below' hb6)
         clear hb6
         have x0 := HX.out.cell 0
         have x1 := HX.out.cell 1
         have x2 := HX.out.cell 2
         have x3 := HX.out.cell 3
         have fx0 := HX.out.free 0
         have fx1 := HX.out.free 1
         have fx2 := HX.out.free 2
         have fx3 := HX.out.free 3
         simp at x0 x1 x2 x3
         have z0 := HZ.out.cell 0
         have z1 := HZ.out.cell 1
         have z2 := HZ.out.cell 2
         have z3 := HZ.out.cell 3
         have fz0 := HZ.out.free 0
         have fz1 := HZ.out.free 1
         have fz2 := HZ.out.free 2
         have fz3 := HZ.out.free 3
         simp at z0 z1 z2 z3))
    all_goals
      have z0 := HZ.out.cell 0
      have z1 := HZ.out.cell 1
      have z2 := HZ.out.cell 2
      have z3 := HZ.out.cell 3
      have fz0 := HZ.out.free 0
      have fz1 := HZ.out.free 1
      have fz2 := HZ.out.free 2
      have fz3 := HZ.out.free 3
      simp at z0 z1 z2 z3
      have HM := Lib.hid (((((HZ.out.put 0 (.int .i64 iN) rfl).put 1 (.int .i64 is) rfl).put 2 (.int .i64 ia) rfl).put 3 (.bool true) rfl))
      have h0 := HM.out.cell 0
      have h1 := HM.out.cell 1
      have h2 := HM.out.cell 2
      have h3 := HM.out.cell 3
      simp at h0 h1 h2 h3
      go_wp2
      simp [bodyPost, results, Try.results13, go_sem, h0, h1, h2, h3]
      exact ⟨rfl, (((HB.out.setCell (by show w.heap.size ≤ w.heap.size; omega) _).setCell (by show w.heap.size ≤ w.heap.size; omega) _).setCell (by show w.heap.size ≤ w.heap.size; omega) _).setCell (by show w.heap.size ≤ w.heap.size; omega) _⟩
  have z0 := HZ.out.cell 0
  have z1 := HZ.out.cell 1
  have z2 := HZ.out.cell 2
  have z3 := HZ.out.cell 3
  have fz0 := HZ.out.free 0
  have fz1 := HZ.out.free 1
  have fz2 := HZ.out.free 2
  have fz3 := HZ.out.free 3
  simp at z0 z1 z2 z3
  have HM := Lib.hid (((((HZ.out.put 0 (.int .i64 0) rfl).put 1 (.int .i64 0) rfl).put 2 (.int .i64 0) rfl).put 3 (.bool false) rfl))
  have h0 := HM.out.cell 0
  have h1 := HM.out.cell 1
  have h2 := HM.out.cell 2
  have h3 := HM.out.cell 3
  simp at h0 h1 h2 h3
  go_wp2
  simp [bodyPost, results, Try.results13, go_sem, h0, h1, h2, h3]
  exact ⟨rfl, (((HB.out.setCell (by show w.heap.size ≤ w.heap.size; omega) _).setCell (by show w.heap.size ≤ w.heap.size; omega) _).setCell (by show w.heap.size ≤ w.heap.size; omega) _).setCell (by show w.heap.size ≤ w.heap.size; omega) _⟩
end Go.Proofs.Ytgjkkapopjpohaa
