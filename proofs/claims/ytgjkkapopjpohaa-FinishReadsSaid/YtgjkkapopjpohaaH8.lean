/- FinishReads. -/
import Derived.Test.YtgjkkapopjpohaaH7
namespace Go.Proofs.Ytgjkkapopjpohaa
open Go.RowKit

theorem eq_tl0 (k : TypeId) (x y z : Int) (b : Bool) (w : World) (hk : k = 23 ∨ k = 30) : (Op.equalIn 10000 k (tl x y z b) (tl x y z b)).run Try.prog w = .ok true w := by
  rcases hk with rfl | rfl <;> simp [go_sem, tl]
set_option maxRecDepth 100000 in
set_option maxHeartbeats 4000000 in
theorem law_none (A : Option Addr) (n c : Nat) (bs : List UInt8) (K : Int) (W : World) (hn : n ≤ 1000) (hk : (K == 0) = false) (hB : Bs W (fun b => b < W.heap.size) A n bs)
    (HP : Hid (∀ w, Below W.heap.size W w → Calls Try.prog 12 #[.slice A n c] w fun e w' => e = .returned (.tuple #[tl 0 0 0 false, .int .i64 0, .int .i64 K]) ∧ Below w.heap.size w w'))
    (HR : Hid (∀ w, Below W.heap.size W w → Calls Try.prog 13 #[.slice A n c] w (RPost w (tl 0 0 0 false) 0))) :
    Calls Try.prog 4 #[.slice A n c] W fun e w' => e = .returned (.bool true) ∧ Below W.heap.size W w' := by
  have d1 : decide (1000 < n) = false := by simpa using hn
  have d1' : decide ((1000 : Int) < (n : Int)) = false := by simp; omega
  have hk2 : (K != 0) = true := by rw [bne, hk]; rfl
  have Q := eq_tl0 23 0 0 0 false
  have HBS := Lib.hid hB
  clear hB
  go_enter Try.func4, Try.ntmps4
  go_wp2_with fail
  refine (awake_any W).mono ?_
  rintro e w1 ⟨rfl, hb1⟩
  have HB1 : Hid (Below W.heap.size W w1) := Lib.hid hb1
  clear hb1
  go_wp2_with fail
  refine (HP.out _ HB1.out).mono ?_
  rintro e w2 ⟨rfl, hb2⟩
  have HB2 := Lib.hid (HB1.out.trans (hb2.mono HB1.out.size))
  clear hb2
  go_wp2_with fail
  obtain ⟨w3, hw3⟩ : ∃ w3, w2.alloc (.cells #[.int .i64 0, .int .i64 0, .int .i64 0, .bool false] 23) = w3 := ⟨_, rfl⟩
  have HX : Hid (Whole w3 w2.heap.size 23 #[.int .i64 0, .int .i64 0, .int .i64 0, .bool false]) := Lib.hid (hw3 ▸ Whole.new w2 23 _ rfl)
  have HB3 : Hid (Below W.heap.size W w3) := Lib.hid (hw3 ▸ HB2.out.alloc HB2.out.size _)
  rw [hw3]
  clear hw3
  refine (HR.out _ HB3.out).mono ?_
  rintro e w4 ⟨rfl, hb4⟩
  have HX := Lib.hid (HX.out.below' hb4)
  have HB4 := Lib.hid (HB3.out.trans (hb4.mono HB3.out.size))
  clear hb4
  have x0 := HX.out.cell 0
  have x1 := HX.out.cell 1
  have x2 := HX.out.cell 2
  have x3 := HX.out.cell 3
  have fx0 := HX.out.free 0
  have fx1 := HX.out.free 1
  have fx2 := HX.out.free 2
  have fx3 := HX.out.free 3
  simp at x0 x1 x2 x3
  have hlX := HX.out.lt
  go_wp2
  go_ret
  exact ⟨rfl, HB4.out.alloc HB4.out.size _⟩
set_option maxRecDepth 100000 in
set_option maxHeartbeats 4000000 in
theorem law_some (A : Option Addr) (n c : Nat) (bs : List UInt8) (x y z : Int) (b : Bool) (L m : Nat) (W : World) (hn : n ≤ 1000) (hL : 1 ≤ L) (hm : L + m = n) (hB : Bs W (fun b => b < W.heap.size) A n bs)
    (HP : Hid (∀ w, Below W.heap.size W w → Calls Try.prog 12 #[.slice A n c] w fun e w' => e = .returned (.tuple #[tl x y z b, .int .i64 (m : Nat), .int .i64 0]) ∧ Below w.heap.size w w'))
    (HR : Hid (∀ w, Below W.heap.size W w → Calls Try.prog 13 #[.slice A n c] w (RPost w (tl x y z b) L))) :
    Calls Try.prog 4 #[.slice A n c] W fun e w' => e = .returned (.bool true) ∧ Below W.heap.size W w' := by
  have d1 : decide (1000 < n) = false := by simpa using hn
  have d1' : decide ((1000 : Int) < (n : Int)) = false := by simp; omega
  have d2 : (L == 0) = false := by rw [beq_eq_false_iff_ne]; omega
  have d2' : ((L : Int) == 0) = false := by rw [beq_eq_false_iff_ne]; omega
  have e1 : IntKind.i64.wrap ((n : Int) - (L : Int)) = (m : Int) := by rw [IntWalk.i64_in _ (by omega)]; omega
  have e1' : ((n : Int) - (L : Int)) = (m : Int) := by omega
  have Q1 := eq_tl0 23 x y z b
  have Q2 := eq_tl0 30 x y z b
  clear hm
  have HBS := Lib.hid hB
  clear hB
  go_enter Try.func4, Try.ntmps4
  go_wp2_with fail
  refine (awake_any W).mono ?_
  rintro e w1 ⟨rfl, hb1⟩
  have HB1 : Hid (Below W.heap.size W w1) := Lib.hid hb1
  clear hb1
  go_wp2_with fail
  refine (HP.out _ HB1.out).mono ?_
  rintro e w2 ⟨rfl, hb2⟩
  have HB2 := Lib.hid (HB1.out.trans (hb2.mono HB1.out.size))
  clear hb2
  go_wp2_with fail
  obtain ⟨w3, hw3⟩ : ∃ w3, w2.alloc (.cells #[.int .i64 x, .int .i64 y, .int .i64 z, .bool b] 23) = w3 := ⟨_, rfl⟩
  have HX : Hid (Whole w3 w2.heap.size 23 #[.int .i64 x, .int .i64 y, .int .i64 z, .bool b]) := Lib.hid (hw3 ▸ Whole.new w2 23 _ rfl)
  have HB3 : Hid (Below W.heap.size W w3) := Lib.hid (hw3 ▸ HB2.out.alloc HB2.out.size _)
  rw [hw3]
  clear hw3
  refine (HR.out _ HB3.out).mono ?_
  rintro e w4 ⟨rfl, hb4⟩
  have HX := Lib.hid (HX.out.below' hb4)
  have HB4 := Lib.hid (HB3.out.trans (hb4.mono HB3.out.size))
  clear hb4
  have x0 := HX.out.cell 0
  have x1 := HX.out.cell 1
  have x2 := HX.out.cell 2
  have x3 := HX.out.cell 3
  have fx0 := HX.out.free 0
  have fx1 := HX.out.free 1
  have fx2 := HX.out.free 2
  have fx3 := HX.out.free 3
  simp at x0 x1 x2 x3
  go_wp2_with fail
  obtain ⟨w5, hw5⟩ : ∃ w5, w4.alloc (.cells #[.int .i64 x, .int .i64 y, .int .i64 z, .bool b] 30) = w5 := ⟨_, rfl⟩
  have HY : Hid (Whole w5 w4.heap.size 30 #[.int .i64 x, .int .i64 y, .int .i64 z, .bool b]) := Lib.hid (hw5 ▸ Whole.new w4 30 _ rfl)
  have HX : Hid (Whole w5 w2.heap.size 23 #[.int .i64 x, .int .i64 y, .int .i64 z, .bool b]) := Lib.hid (hw5 ▸ HX.out.alloc _)
  have HB5 : Hid (Below W.heap.size W w5) := Lib.hid (hw5 ▸ HB4.out.alloc HB4.out.size _)
  rw [hw5]
  clear hw5
  have hlX := HX.out.lt
  have hlY := HY.out.lt
  have x0 := HX.out.cell 0
  have x1 := HX.out.cell 1
  have x2 := HX.out.cell 2
  have x3 := HX.out.cell 3
  have fx0 := HX.out.free 0
  have fx1 := HX.out.free 1
  have fx2 := HX.out.free 2
  have fx3 := HX.out.free 3
  simp at x0 x1 x2 x3
  have y0 := HY.out.cell 0
  have y1 := HY.out.cell 1
  have y2 := HY.out.cell 2
  have y3 := HY.out.cell 3
  have fy0 := HY.out.free 0
  have fy1 := HY.out.free 1
  have fy2 := HY.out.free 2
  have fy3 := HY.out.free 3
  simp at y0 y1 y2 y3
  refine wp_region_free2 (mk := fun j => [4].any (Nat.beq j)) (by kernel_rfl) (by kernel_rfl) (by kernel_rfl) ?_
  iterate 4 (first | (refine vfree_skip rfl rfl ?_; intro K hK; go_big_quiet_op; go_big_quiet_on) | (refine vfree_hard rfl rfl ?_; intro K hK; go_big_quiet_op; go_big_quiet_on))
  refine vfree_one (tl x y z b) rfl rfl rfl (fun w' hw' => ?_) ?_
  · have hb := hw'.1.below
    go_simp
    exact (ref_any x y z b w').mono fun _ _ ⟨h1, h2⟩ => ⟨h1, h2⟩
  intro K hK
  go_big_quiet_op
  go_big_quiet_on
  iterate 12 (first | (refine vfree_skip rfl rfl ?_; intro K hK; go_big_quiet_op; go_big_quiet_on) | (refine vfree_hard rfl rfl ?_; intro K hK; go_big_quiet_op; go_big_quiet_on))
  refine vfree_nil ?_
  intro w6 hb6 hk6
  have B6 := Lib.hid (HB5.out.trans (hb6.mono HB5.out.size))
  clear hk6 hb6
  go_wp2
  go_ret
  exact ⟨rfl, B6.out⟩
end Go.Proofs.Ytgjkkapopjpohaa
