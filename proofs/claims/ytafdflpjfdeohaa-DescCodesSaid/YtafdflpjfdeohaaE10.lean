/- The law. -/
import Derived.Test.YtafdflpjfdeohaaE6
import Derived.Test.YtafdflpjfdeohaaE7
namespace Go.Proofs.Ytafdflpjfdeohaa
open Go.RowKit

set_option maxHeartbeats 8000000 in
set_option maxRecDepth 100000 in
theorem law_bad_neg (c : Nat) (p s : Int) (wd : Bool) (A : Option Addr) (n cA L : Nat) (X : List UInt8) (W : World) (hn : n ≤ 300) (hL1 : 1 ≤ L) (hL2 : L ≤ 24) (hXL : X.length = L) (z : Int) (hz : z < 0)
    (HE6 : Hid (∀ w, Calls Try.prog 6 #[.int .u32 (c : Nat), .int .i64 p, .int .i64 s, .bool wd] w fun e w' => ∃ A cp, e = .returned (.slice A 0 cp) ∧ Bs w' (fun b => w.heap.size ≤ b) A 0 [] ∧ Below w.heap.size w w'))
    (HE7 : Hid (∀ w, Calls Try.prog 7 #[.agg #[.int .u32 (c : Nat), .int .i64 p, .int .i64 s, .bool wd]] w fun e w' => ∃ A cp, e = .returned (.tuple #[.slice A 0 cp, .int .i64 13]) ∧ Bs w' (fun b => w.heap.size ≤ b) A 0 [] ∧ Below w.heap.size w w'))
    (HC : Hid (∀ w, Calls Try.prog 8 #[.agg #[.int .u32 (c : Nat), .int .i64 p, .int .i64 s, .bool wd]] w fun e w' => e = .returned (.int .i64 13) ∧ Below w.heap.size w w'))
    (HL : Hid (∀ (c : Nat) (p s : Int) w, Calls Try.prog 9 #[.agg #[.int .u32 (c : Nat), .int .i64 p, .int .i64 s, .bool wd]] w fun e w' => e = .returned (.int .i64 (L : Nat)) ∧ Below w.heap.size w w'))
    (HP : Hid (∀ w, Below W.heap.size W w → Calls Try.prog 10 #[.slice A n cA, .int .i64 z, .bool wd] w fun e w' => e = .returned (.tuple #[tl 0 0 0 false, .int .i64 0, .int .i64 2]) ∧ Below w.heap.size w w'))
    : Calls Try.prog 3 #[.agg #[.int .u32 (c : Nat), .int .i64 p, .int .i64 s, .bool wd], .slice A n cA, .int .i64 z] W fun e w' => e = .returned (.bool true) ∧ Below W.heap.size W w' := by
  have d1 : decide (300 < n) = false := by simpa using hn
  have d1' : decide ((300 : Int) < (n : Int)) = false := by simp; omega
  have l1 : (L == 0) = false := by rw [beq_eq_false_iff_ne]; omega
  have l1' : ((L : Int) == 0) = false := by rw [beq_eq_false_iff_ne]; omega
  have l2 : decide (0 < L) = true := by simp; omega
  have l2' : decide ((0 : Int) < (L : Int)) = true := by simp; omega
  have Q0 := eq_tl 0 0 0 false
  have d2 : decide (z < 0) = true := by simpa using hz
  clear hn
  go_enter Try.func3, Try.ntmps3
  go_wp2_with fail
  obtain ⟨w0, hw0⟩ : ∃ w0, W.alloc (.cells #[.int .u32 (c : Nat), .int .i64 p, .int .i64 s, .bool wd] 24) = w0 := ⟨_, rfl⟩
  rw [hw0]
  have HB : Hid (Below W.heap.size W w0) := Lib.hid (hw0 ▸ (Below.refl _ _).alloc (Nat.le_refl _) _)
  have HR : Hid (Whole w0 W.heap.size 24 #[.int .u32 (c : Nat), .int .i64 p, .int .i64 s, .bool wd]) := Lib.hid (hw0 ▸ Whole.new W 24 _ rfl)
  clear hw0
  refine (awake_any w0).mono ?_
  rintro e w1 ⟨rfl, hb1⟩
  have HB := Lib.hid (HB.out.trans (hb1.mono HB.out.size))
  have HR := Lib.hid (HR.out.below' hb1)
  clear hb1
  have r0 := HR.out.cell 0
  have r1 := HR.out.cell 1
  have r2 := HR.out.cell 2
  have r3 := HR.out.cell 3
  simp at r0 r1 r2 r3
  go_wp2_with fail
  refine (HE6.out w1).mono ?_
  rintro e w2 ⟨A6, c6, rfl, h6, hb2⟩
  have HB := Lib.hid (HB.out.trans (hb2.mono HB.out.size))
  have HR := Lib.hid (HR.out.below' hb2)
  have H6 := Lib.hid h6
  clear hb2 h6
  have r0 := HR.out.cell 0
  have r1 := HR.out.cell 1
  have r2 := HR.out.cell 2
  have r3 := HR.out.cell 3
  simp at r0 r1 r2 r3
  go_wp2_with fail
  refine (HE7.out w2).mono ?_
  rintro e w3 ⟨A7, c7, rfl, h7, hb3⟩
  have HB := Lib.hid (HB.out.trans (hb3.mono HB.out.size))
  have HR := Lib.hid (HR.out.below' hb3)
  have H6 := Lib.hid (H6.out.below hb3)
  have s6 := str_of c6 H6.out
  have s7 := str_of c7 h7
  clear hb3 h7
  have r0 := HR.out.cell 0
  have r1 := HR.out.cell 1
  have r2 := HR.out.cell 2
  have r3 := HR.out.cell 3
  simp at r0 r1 r2 r3
  go_wp2_with fail
  refine (HC.out w3).mono ?_
  rintro e w4 ⟨rfl, hb4⟩
  have HB := Lib.hid (HB.out.trans (hb4.mono HB.out.size))
  have HR := Lib.hid (HR.out.below' hb4)
  clear hb4 s6 s7
  have r0 := HR.out.cell 0
  have r1 := HR.out.cell 1
  have r2 := HR.out.cell 2
  have r3 := HR.out.cell 3
  simp at r0 r1 r2 r3
  go_wp2_with fail
  refine (HP.out _ HB.out).mono ?_
  rintro e w6 ⟨rfl, hb6⟩
  have HB := Lib.hid (HB.out.trans (hb6.mono HB.out.size))
  have HR := Lib.hid (HR.out.below' hb6)
  clear hb6
  obtain ⟨w7, hw7⟩ : ∃ w7, w6.alloc (.cells #[.int .u32 0, .int .i64 0, .int .i64 0, .bool false] 24) = w7 := ⟨_, rfl⟩
  have HY : Hid (Whole w7 w6.heap.size 24 #[.int .u32 0, .int .i64 0, .int .i64 0, .bool false]) := Lib.hid (hw7 ▸ Whole.new w6 24 _ rfl)
  have HR : Hid (Whole w7 W.heap.size 24 #[.int .u32 (c : Nat), .int .i64 p, .int .i64 s, .bool wd]) := Lib.hid (hw7 ▸ HR.out.alloc _)
  have hlR := HR.out.lt
  have HB : Hid (Below W.heap.size W w7) := Lib.hid (hw7 ▸ HB.out.alloc HB.out.size _)
  have HW7 := Lib.hid hw7
  clear hw7
  have y0 := HY.out.cell 0
  have y1 := HY.out.cell 1
  have y2 := HY.out.cell 2
  have y3 := HY.out.cell 3
  simp at y0 y1 y2 y3
  simp only [← HW7.out] at y0 y1 y2 y3
  go_wp2
  go_ret
  exact ⟨rfl, by have := HB.out; rw [← HW7.out] at this; exact this⟩
set_option maxHeartbeats 8000000 in
set_option maxRecDepth 100000 in
theorem law_bad_big (c : Nat) (p s : Int) (wd : Bool) (A : Option Addr) (n cA L : Nat) (X : List UInt8) (W : World) (hn : n ≤ 300) (hL1 : 1 ≤ L) (hL2 : L ≤ 24) (hXL : X.length = L) (z : Int) (hz0 : ¬ z < 0) (hz : (n : Int) < z)
    (HE6 : Hid (∀ w, Calls Try.prog 6 #[.int .u32 (c : Nat), .int .i64 p, .int .i64 s, .bool wd] w fun e w' => ∃ A cp, e = .returned (.slice A 0 cp) ∧ Bs w' (fun b => w.heap.size ≤ b) A 0 [] ∧ Below w.heap.size w w'))
    (HE7 : Hid (∀ w, Calls Try.prog 7 #[.agg #[.int .u32 (c : Nat), .int .i64 p, .int .i64 s, .bool wd]] w fun e w' => ∃ A cp, e = .returned (.tuple #[.slice A 0 cp, .int .i64 13]) ∧ Bs w' (fun b => w.heap.size ≤ b) A 0 [] ∧ Below w.heap.size w w'))
    (HC : Hid (∀ w, Calls Try.prog 8 #[.agg #[.int .u32 (c : Nat), .int .i64 p, .int .i64 s, .bool wd]] w fun e w' => e = .returned (.int .i64 13) ∧ Below w.heap.size w w'))
    (HL : Hid (∀ (c : Nat) (p s : Int) w, Calls Try.prog 9 #[.agg #[.int .u32 (c : Nat), .int .i64 p, .int .i64 s, .bool wd]] w fun e w' => e = .returned (.int .i64 (L : Nat)) ∧ Below w.heap.size w w'))
    (HP : Hid (∀ w, Below W.heap.size W w → Calls Try.prog 10 #[.slice A n cA, .int .i64 z, .bool wd] w fun e w' => e = .returned (.tuple #[tl 0 0 0 false, .int .i64 0, .int .i64 2]) ∧ Below w.heap.size w w'))
    : Calls Try.prog 3 #[.agg #[.int .u32 (c : Nat), .int .i64 p, .int .i64 s, .bool wd], .slice A n cA, .int .i64 z] W fun e w' => e = .returned (.bool true) ∧ Below W.heap.size W w' := by
  have d1 : decide (300 < n) = false := by simpa using hn
  have d1' : decide ((300 : Int) < (n : Int)) = false := by simp; omega
  have l1 : (L == 0) = false := by rw [beq_eq_false_iff_ne]; omega
  have l1' : ((L : Int) == 0) = false := by rw [beq_eq_false_iff_ne]; omega
  have l2 : decide (0 < L) = true := by simp; omega
  have l2' : decide ((0 : Int) < (L : Int)) = true := by simp; omega
  have Q0 := eq_tl 0 0 0 false
  have d2 : decide (z < 0) = false := by simpa using hz0
  have d3 : decide ((n : Int) < z) = true := by simpa using hz
  clear hn
  go_enter Try.func3, Try.ntmps3
  go_wp2_with fail
  obtain ⟨w0, hw0⟩ : ∃ w0, W.alloc (.cells #[.int .u32 (c : Nat), .int .i64 p, .int .i64 s, .bool wd] 24) = w0 := ⟨_, rfl⟩
  rw [hw0]
  have HB : Hid (Below W.heap.size W w0) := Lib.hid (hw0 ▸ (Below.refl _ _).alloc (Nat.le_refl _) _)
  have HR : Hid (Whole w0 W.heap.size 24 #[.int .u32 (c : Nat), .int .i64 p, .int .i64 s, .bool wd]) := Lib.hid (hw0 ▸ Whole.new W 24 _ rfl)
  clear hw0
  refine (awake_any w0).mono ?_
  rintro e w1 ⟨rfl, hb1⟩
  have HB := Lib.hid (HB.out.trans (hb1.mono HB.out.size))
  have HR := Lib.hid (HR.out.below' hb1)
  clear hb1
  have r0 := HR.out.cell 0
  have r1 := HR.out.cell 1
  have r2 := HR.out.cell 2
  have r3 := HR.out.cell 3
  simp at r0 r1 r2 r3
  go_wp2_with fail
  refine (HE6.out w1).mono ?_
  rintro e w2 ⟨A6, c6, rfl, h6, hb2⟩
  have HB := Lib.hid (HB.out.trans (hb2.mono HB.out.size))
  have HR := Lib.hid (HR.out.below' hb2)
  have H6 := Lib.hid h6
  clear hb2 h6
  have r0 := HR.out.cell 0
  have r1 := HR.out.cell 1
  have r2 := HR.out.cell 2
  have r3 := HR.out.cell 3
  simp at r0 r1 r2 r3
  go_wp2_with fail
  refine (HE7.out w2).mono ?_
  rintro e w3 ⟨A7, c7, rfl, h7, hb3⟩
  have HB := Lib.hid (HB.out.trans (hb3.mono HB.out.size))
  have HR := Lib.hid (HR.out.below' hb3)
  have H6 := Lib.hid (H6.out.below hb3)
  have s6 := str_of c6 H6.out
  have s7 := str_of c7 h7
  clear hb3 h7
  have r0 := HR.out.cell 0
  have r1 := HR.out.cell 1
  have r2 := HR.out.cell 2
  have r3 := HR.out.cell 3
  simp at r0 r1 r2 r3
  go_wp2_with fail
  refine (HC.out w3).mono ?_
  rintro e w4 ⟨rfl, hb4⟩
  have HB := Lib.hid (HB.out.trans (hb4.mono HB.out.size))
  have HR := Lib.hid (HR.out.below' hb4)
  clear hb4 s6 s7
  have r0 := HR.out.cell 0
  have r1 := HR.out.cell 1
  have r2 := HR.out.cell 2
  have r3 := HR.out.cell 3
  simp at r0 r1 r2 r3
  go_wp2_with fail
  refine (HP.out _ HB.out).mono ?_
  rintro e w6 ⟨rfl, hb6⟩
  have HB := Lib.hid (HB.out.trans (hb6.mono HB.out.size))
  have HR := Lib.hid (HR.out.below' hb6)
  clear hb6
  obtain ⟨w7, hw7⟩ : ∃ w7, w6.alloc (.cells #[.int .u32 0, .int .i64 0, .int .i64 0, .bool false] 24) = w7 := ⟨_, rfl⟩
  have HY : Hid (Whole w7 w6.heap.size 24 #[.int .u32 0, .int .i64 0, .int .i64 0, .bool false]) := Lib.hid (hw7 ▸ Whole.new w6 24 _ rfl)
  have HR : Hid (Whole w7 W.heap.size 24 #[.int .u32 (c : Nat), .int .i64 p, .int .i64 s, .bool wd]) := Lib.hid (hw7 ▸ HR.out.alloc _)
  have hlR := HR.out.lt
  have HB : Hid (Below W.heap.size W w7) := Lib.hid (hw7 ▸ HB.out.alloc HB.out.size _)
  have HW7 := Lib.hid hw7
  clear hw7
  have y0 := HY.out.cell 0
  have y1 := HY.out.cell 1
  have y2 := HY.out.cell 2
  have y3 := HY.out.cell 3
  simp at y0 y1 y2 y3
  simp only [← HW7.out] at y0 y1 y2 y3
  go_wp2
  go_ret
  exact ⟨rfl, by have := HB.out; rw [← HW7.out] at this; exact this⟩
set_option maxHeartbeats 8000000 in
set_option maxRecDepth 100000 in
theorem law_bad_none_ne (c : Nat) (p s : Int) (wd : Bool) (A : Option Addr) (n cA L : Nat) (X : List UInt8) (W : World) (hn : n ≤ 300) (hL1 : 1 ≤ L) (hL2 : L ≤ 24) (hXL : X.length = L) (at' M : Nat) (hat : at' ≤ n) (hM : n - at' = M) (hnc : n ≤ cA) (hca : ¬ cA = at') (xs : List UInt8) (c2 p2 s2 : Nat) (K1 K2 : Int) (hK1 : (K1 == 0) = false) (hK2 : (K2 == 0) = false)
    (HE6 : Hid (∀ w, Calls Try.prog 6 #[.int .u32 (c : Nat), .int .i64 p, .int .i64 s, .bool wd] w fun e w' => ∃ A cp, e = .returned (.slice A 0 cp) ∧ Bs w' (fun b => w.heap.size ≤ b) A 0 [] ∧ Below w.heap.size w w'))
    (HE7 : Hid (∀ w, Calls Try.prog 7 #[.agg #[.int .u32 (c : Nat), .int .i64 p, .int .i64 s, .bool wd]] w fun e w' => ∃ A cp, e = .returned (.tuple #[.slice A 0 cp, .int .i64 13]) ∧ Bs w' (fun b => w.heap.size ≤ b) A 0 [] ∧ Below w.heap.size w w'))
    (HC : Hid (∀ w, Calls Try.prog 8 #[.agg #[.int .u32 (c : Nat), .int .i64 p, .int .i64 s, .bool wd]] w fun e w' => e = .returned (.int .i64 13) ∧ Below w.heap.size w w'))
    (HL : Hid (∀ (c : Nat) (p s : Int) w, Calls Try.prog 9 #[.agg #[.int .u32 (c : Nat), .int .i64 p, .int .i64 s, .bool wd]] w fun e w' => e = .returned (.int .i64 (L : Nat)) ∧ Below w.heap.size w w'))
    (HP : Hid (∀ w, Below W.heap.size W w → Calls Try.prog 10 #[.slice A n cA, .int .i64 (at' : Nat), .bool wd] w fun e w' => e = .returned (.tuple #[tl 0 0 0 false, .int .i64 0, .int .i64 K1]) ∧ Below w.heap.size w w'))
    (HQ : Hid (∀ w, Below W.heap.size W w → Calls Try.prog 11 #[.slice (Option.map (fun x => x.add at') A) M (cA - at'), .bool wd] w (QP w false c2 p2 s2)))
    (HS : Hid (∀ w, Below W.heap.size W w → Bs w (fun b => b < W.heap.size) (Option.map (fun x => x.add at') A) M xs))
    (HRD : Hid (∀ g A2 cp w', Rdr w' g A2 M cp xs 0 → M ≤ cp → cp ≤ 9223372036854775807 → Calls Try.prog 15 #[.pointer (some ⟨g, 0, none⟩), .bool wd] w' fun e w'' => e = .panicked [{ v := fault K2, recovered := false }] ∧ Alone w' w'' g))
    : Calls Try.prog 3 #[.agg #[.int .u32 (c : Nat), .int .i64 p, .int .i64 s, .bool wd], .slice A n cA, .int .i64 (at' : Nat)] W fun e w' => e = .returned (.bool true) ∧ Below W.heap.size W w' := by
  have d1 : decide (300 < n) = false := by simpa using hn
  have d1' : decide ((300 : Int) < (n : Int)) = false := by simp; omega
  have l1 : (L == 0) = false := by rw [beq_eq_false_iff_ne]; omega
  have l1' : ((L : Int) == 0) = false := by rw [beq_eq_false_iff_ne]; omega
  have l2 : decide (0 < L) = true := by simp; omega
  have l2' : decide ((0 : Int) < (L : Int)) = true := by simp; omega
  have Q0 := eq_tl 0 0 0 false
  have d3 : decide (n < at') = false := by simpa using hat
  have d3' : decide ((n : Int) < (at' : Int)) = false := by simp; omega
  have i1 : (at' : Int) ≤ (n : Int) := by omega
  have i2 : (n : Int) ≤ (cA : Int) := by omega
  have hM3 : M ≤ 300 := by omega
  have k1 : (K1 != 0) = true := by rw [bne, hK1]; rfl
  have k2 : (K2 != 0) = true := by rw [bne, hK2]; rfl
  clear hn
  go_enter Try.func3, Try.ntmps3
  go_wp2_with fail
  obtain ⟨w0, hw0⟩ : ∃ w0, W.alloc (.cells #[.int .u32 (c : Nat), .int .i64 p, .int .i64 s, .bool wd] 24) = w0 := ⟨_, rfl⟩
  rw [hw0]
  have HB : Hid (Below W.heap.size W w0) := Lib.hid (hw0 ▸ (Below.refl _ _).alloc (Nat.le_refl _) _)
  have HR : Hid (Whole w0 W.heap.size 24 #[.int .u32 (c : Nat), .int .i64 p, .int .i64 s, .bool wd]) := Lib.hid (hw0 ▸ Whole.new W 24 _ rfl)
  clear hw0
  refine (awake_any w0).mono ?_
  rintro e w1 ⟨rfl, hb1⟩
  have HB := Lib.hid (HB.out.trans (hb1.mono HB.out.size))
  have HR := Lib.hid (HR.out.below' hb1)
  clear hb1
  have r0 := HR.out.cell 0
  have r1 := HR.out.cell 1
  have r2 := HR.out.cell 2
  have r3 := HR.out.cell 3
  simp at r0 r1 r2 r3
  go_wp2_with fail
  refine (HE6.out w1).mono ?_
  rintro e w2 ⟨A6, c6, rfl, h6, hb2⟩
  have HB := Lib.hid (HB.out.trans (hb2.mono HB.out.size))
  have HR := Lib.hid (HR.out.below' hb2)
  have H6 := Lib.hid h6
  clear hb2 h6
  have r0 := HR.out.cell 0
  have r1 := HR.out.cell 1
  have r2 := HR.out.cell 2
  have r3 := HR.out.cell 3
  simp at r0 r1 r2 r3
  go_wp2_with fail
  refine (HE7.out w2).mono ?_
  rintro e w3 ⟨A7, c7, rfl, h7, hb3⟩
  have HB := Lib.hid (HB.out.trans (hb3.mono HB.out.size))
  have HR := Lib.hid (HR.out.below' hb3)
  have H6 := Lib.hid (H6.out.below hb3)
  have s6 := str_of c6 H6.out
  have s7 := str_of c7 h7
  clear hb3 h7
  have r0 := HR.out.cell 0
  have r1 := HR.out.cell 1
  have r2 := HR.out.cell 2
  have r3 := HR.out.cell 3
  simp at r0 r1 r2 r3
  go_wp2_with fail
  refine (HC.out w3).mono ?_
  rintro e w4 ⟨rfl, hb4⟩
  have HB := Lib.hid (HB.out.trans (hb4.mono HB.out.size))
  have HR := Lib.hid (HR.out.below' hb4)
  clear hb4 s6 s7
  have r0 := HR.out.cell 0
  have r1 := HR.out.cell 1
  have r2 := HR.out.cell 2
  have r3 := HR.out.cell 3
  simp at r0 r1 r2 r3
  go_wp2_with fail
  refine (HP.out _ HB.out).mono ?_
  rintro e w6 ⟨rfl, hb6⟩
  have HB := Lib.hid (HB.out.trans (hb6.mono HB.out.size))
  have HR := Lib.hid (HR.out.below' hb6)
  clear hb6
  obtain ⟨w7, hw7⟩ : ∃ w7, w6.alloc (.cells #[.int .u32 0, .int .i64 0, .int .i64 0, .bool false] 24) = w7 := ⟨_, rfl⟩
  have HY : Hid (Whole w7 w6.heap.size 24 #[.int .u32 0, .int .i64 0, .int .i64 0, .bool false]) := Lib.hid (hw7 ▸ Whole.new w6 24 _ rfl)
  have HR : Hid (Whole w7 W.heap.size 24 #[.int .u32 (c : Nat), .int .i64 p, .int .i64 s, .bool wd]) := Lib.hid (hw7 ▸ HR.out.alloc _)
  have hlR := HR.out.lt
  have HB : Hid (Below W.heap.size W w7) := Lib.hid (hw7 ▸ HB.out.alloc HB.out.size _)
  have HW7 := Lib.hid hw7
  clear hw7
  go_wp2_with fail
  rw [HW7.out]
  have r0 := HR.out.cell 0
  have r1 := HR.out.cell 1
  have r2 := HR.out.cell 2
  have r3 := HR.out.cell 3
  simp at r0 r1 r2 r3
  have y0 := HY.out.cell 0
  have y1 := HY.out.cell 1
  have y2 := HY.out.cell 2
  have y3 := HY.out.cell 3
  simp at y0 y1 y2 y3
  refine wp_region_free2 (mk := fun j => [5].any (Nat.beq j)) (by kernel_rfl) (by kernel_rfl) (by kernel_rfl) ?_
  iterate 5 (first | ((with_reducible refine vfree_skip rfl ?_ ?_); (focus rfl); intro K hK; go_big_quiet_op; go_big_quiet_on) | ((with_reducible refine vfree_hard ?_ ?_ ?_); (focus rfl); (focus rfl); intro K hK; go_big_quiet_op; go_big_quiet_on))
  refine vfree_one (.tuple #[.int .u32 0, .int .i64 0, .int .i64 0, .bool false]) rfl rfl rfl (fun w' hw' => ?_) ?_
  · have hb := hw'.1.below
    go_simp
    exact (HQ.out w' (HB.out.trans (hb.mono HB.out.size))).mono fun _ _ ⟨h1, h2⟩ => ⟨h1, h2⟩
  intro K hK
  go_big_quiet_op
  go_big_quiet_on
  iterate 9 (first | ((with_reducible refine vfree_skip rfl ?_ ?_); (focus rfl); intro K hK; go_big_quiet_op; go_big_quiet_on) | ((with_reducible refine vfree_hard ?_ ?_ ?_); (focus rfl); (focus rfl); intro K hK; go_big_quiet_op; go_big_quiet_on))
  refine vfree_nil ?_
  intro w8 hb8 hk8
  have HB := Lib.hid (HB.out.trans (hb8.mono HB.out.size))
  have HR := Lib.hid (HR.out.below' hb8)
  have HY := Lib.hid (HY.out.below' hb8)
  clear hk8 hb8
  have HO := Lib.hid (over_any (Option.map (fun x => x.add at') A) M (cA - at') xs _ w8 (HS.out _ HB.out) (by omega))
  have r0 := HR.out.cell 0
  have r1 := HR.out.cell 1
  have r2 := HR.out.cell 2
  have r3 := HR.out.cell 3
  simp at r0 r1 r2 r3
  have y0 := HY.out.cell 0
  have y1 := HY.out.cell 1
  have y2 := HY.out.cell 2
  have y3 := HY.out.cell 3
  simp at y0 y1 y2 y3
  go_wp2_with fail
  refine HO.out.mono ?_
  rintro e w9 ⟨A2, cp, g, rfl, hg0, hRd, hc1, hc2, hb9⟩
  have hr8 := HR.out.lt
  have hy8 := HY.out.lt
  have HB := Lib.hid (HB.out.trans (hb9.mono HB.out.size))
  have HR := Lib.hid ((HR.out.below' hb9).alloc (.cells #[.pointer (some ⟨g, 0, none⟩)] 37))
  have HY := Lib.hid ((HY.out.below' hb9).alloc (.cells #[.pointer (some ⟨g, 0, none⟩)] 37))
  have HQ9 := Lib.hid (Whole.new w9 37 #[.pointer (some ⟨g, 0, none⟩)] rfl)
  have HRd := Lib.hid (hRd.below ((Below.refl w9.heap.size w9).alloc (Nat.le_refl _) (.cells #[.pointer (some ⟨g, 0, none⟩)] 37)))
  have HB := Lib.hid (HB.out.alloc HB.out.size (.cells #[.pointer (some ⟨g, 0, none⟩)] 37))
  have hgl := hRd.1.lt
  obtain ⟨q, hq⟩ : ∃ q, w9.heap.size = q := ⟨_, rfl⟩
  rw [hq] at HQ9 hgl
  clear hb9 hRd HO
  have hmf : ∀ (fn : Fn) (first cap : Array Value) (w : World), (Instr.makeFunc fn first cap).run Try.prog w = .ok (.func fn first cap) w := fun _ _ _ _ => rfl
  go_wp2_with fail
  obtain ⟨w10, hw10⟩ : ∃ w10, w9.alloc (.cells #[.pointer (some ⟨g, 0, none⟩)] 37) = w10 := ⟨_, rfl⟩
  rw [hw10] at HR HY HRd HB HQ9 ⊢
  try rw [hq]
  clear hw10
  have hg10 := HRd.out.1.lt
  have hr10 := HR.out.lt
  have hy10 := HY.out.lt
  refine (tryT_throw 14 #[.pointer (some ⟨q, 0, none⟩), .pointer (some ⟨W.heap.size, 0, none⟩)] K2 w10 (fun a b => Alone a b g) (fun _ => by kernel_rfl) (fun a b hm => ⟨hm.size, fun k t cs hk hw => hm.whole hw (by omega)⟩)
    (fun w' hb => cloL_throw g q W.heap.size _ _ _ wd K2 w' (HQ9.out.below' hb) (HR.out.below' hb) (by have := hb.size; omega) (fun w'' hb2 => HRD.out g A2 cp w'' ((HRd.out.below hb).below hb2) hc1 hc2))).mono ?_
  rintro e w11 ⟨rfl, u1, u2, hb4, hM, hb5⟩
  have hb4s := hb4.size
  have HR := Lib.hid ((hM.whole (HR.out.below' hb4) (by omega)).below hb5 (by omega))
  have HY := Lib.hid ((hM.whole (HY.out.below' hb4) (by omega)).below hb5 (by omega))
  have HB := Lib.hid ((hM.below (HB.out.trans (hb4.mono HB.out.size)) (by omega) (by have := HB.out.size; omega)).trans (hb5.mono HB.out.size))
  clear hM hb4 hb5
  obtain ⟨w12, hw12⟩ : ∃ w12, w11.alloc (.cells #[.int .u32 0, .int .i64 0, .int .i64 0, .bool false] 24) = w12 := ⟨_, rfl⟩
  have HZ : Hid (Whole w12 w11.heap.size 24 #[.int .u32 0, .int .i64 0, .int .i64 0, .bool false]) := Lib.hid (hw12 ▸ Whole.new w11 24 _ rfl)
  have HY : Hid (Whole w12 w6.heap.size 24 #[.int .u32 0, .int .i64 0, .int .i64 0, .bool false]) := Lib.hid (hw12 ▸ HY.out.alloc _)
  have HR : Hid (Whole w12 W.heap.size 24 #[.int .u32 (c : Nat), .int .i64 p, .int .i64 s, .bool wd]) := Lib.hid (hw12 ▸ HR.out.alloc _)
  have HB : Hid (Below W.heap.size W w12) := Lib.hid (hw12 ▸ HB.out.alloc HB.out.size _)
  have HW12 := Lib.hid hw12
  clear hw12
  have r0 := HR.out.cell 0
  have r1 := HR.out.cell 1
  have r2 := HR.out.cell 2
  have r3 := HR.out.cell 3
  simp at r0 r1 r2 r3
  have y0 := HY.out.cell 0
  have y1 := HY.out.cell 1
  have y2 := HY.out.cell 2
  have y3 := HY.out.cell 3
  simp at y0 y1 y2 y3
  have z0 := HZ.out.cell 0
  have z1 := HZ.out.cell 1
  have z2 := HZ.out.cell 2
  have z3 := HZ.out.cell 3
  simp at z0 z1 z2 z3
  simp only [← HW12.out] at r0 r1 r2 r3 y0 y1 y2 y3 z0 z1 z2 z3
  go_wp2
  go_ret
  exact ⟨rfl, by have := HB.out; rw [← HW12.out] at this; exact this⟩
set_option maxHeartbeats 8000000 in
set_option maxRecDepth 100000 in
theorem law_bad_none_eq (c : Nat) (p s : Int) (wd : Bool) (A : Option Addr) (n cA L : Nat) (X : List UInt8) (W : World) (hn : n ≤ 300) (hL1 : 1 ≤ L) (hL2 : L ≤ 24) (hXL : X.length = L) (at' M : Nat) (hat : at' ≤ n) (hM : n - at' = M) (hnc : n ≤ cA) (hca : cA = at') (hM0 : M = 0) (xs : List UInt8) (c2 p2 s2 : Nat) (K1 K2 : Int) (hK1 : (K1 == 0) = false) (hK2 : (K2 == 0) = false)
    (HE6 : Hid (∀ w, Calls Try.prog 6 #[.int .u32 (c : Nat), .int .i64 p, .int .i64 s, .bool wd] w fun e w' => ∃ A cp, e = .returned (.slice A 0 cp) ∧ Bs w' (fun b => w.heap.size ≤ b) A 0 [] ∧ Below w.heap.size w w'))
    (HE7 : Hid (∀ w, Calls Try.prog 7 #[.agg #[.int .u32 (c : Nat), .int .i64 p, .int .i64 s, .bool wd]] w fun e w' => ∃ A cp, e = .returned (.tuple #[.slice A 0 cp, .int .i64 13]) ∧ Bs w' (fun b => w.heap.size ≤ b) A 0 [] ∧ Below w.heap.size w w'))
    (HC : Hid (∀ w, Calls Try.prog 8 #[.agg #[.int .u32 (c : Nat), .int .i64 p, .int .i64 s, .bool wd]] w fun e w' => e = .returned (.int .i64 13) ∧ Below w.heap.size w w'))
    (HL : Hid (∀ (c : Nat) (p s : Int) w, Calls Try.prog 9 #[.agg #[.int .u32 (c : Nat), .int .i64 p, .int .i64 s, .bool wd]] w fun e w' => e = .returned (.int .i64 (L : Nat)) ∧ Below w.heap.size w w'))
    (HP : Hid (∀ w, Below W.heap.size W w → Calls Try.prog 10 #[.slice A n cA, .int .i64 (at' : Nat), .bool wd] w fun e w' => e = .returned (.tuple #[tl 0 0 0 false, .int .i64 0, .int .i64 K1]) ∧ Below w.heap.size w w'))
    (HQ : Hid (∀ w, Below W.heap.size W w → Calls Try.prog 11 #[.slice A 0 0, .bool wd] w (QP w false c2 p2 s2)))
    (HS : Hid (∀ w, Below W.heap.size W w → Bs w (fun b => b < W.heap.size) A 0 xs))
    (HRD : Hid (∀ g A2 cp w', Rdr w' g A2 0 cp xs 0 → 0 ≤ cp → cp ≤ 9223372036854775807 → Calls Try.prog 15 #[.pointer (some ⟨g, 0, none⟩), .bool wd] w' fun e w'' => e = .panicked [{ v := fault K2, recovered := false }] ∧ Alone w' w'' g))
    : Calls Try.prog 3 #[.agg #[.int .u32 (c : Nat), .int .i64 p, .int .i64 s, .bool wd], .slice A n cA, .int .i64 (at' : Nat)] W fun e w' => e = .returned (.bool true) ∧ Below W.heap.size W w' := by
  have d1 : decide (300 < n) = false := by simpa using hn
  have d1' : decide ((300 : Int) < (n : Int)) = false := by simp; omega
  have l1 : (L == 0) = false := by rw [beq_eq_false_iff_ne]; omega
  have l1' : ((L : Int) == 0) = false := by rw [beq_eq_false_iff_ne]; omega
  have l2 : decide (0 < L) = true := by simp; omega
  have l2' : decide ((0 : Int) < (L : Int)) = true := by simp; omega
  have Q0 := eq_tl 0 0 0 false
  have d3 : decide (n < at') = false := by simpa using hat
  have d3' : decide ((n : Int) < (at' : Int)) = false := by simp; omega
  have i1 : (at' : Int) ≤ (n : Int) := by omega
  have i2 : (n : Int) ≤ (cA : Int) := by omega
  have hM3 : M ≤ 300 := by omega
  have hn' : n = at' := by omega
  subst hn'
  subst hca
  clear hat hM hnc i1 i2
  have k1 : (K1 != 0) = true := by rw [bne, hK1]; rfl
  have k2 : (K2 != 0) = true := by rw [bne, hK2]; rfl
  clear hn
  go_enter Try.func3, Try.ntmps3
  go_wp2_with fail
  obtain ⟨w0, hw0⟩ : ∃ w0, W.alloc (.cells #[.int .u32 (c : Nat), .int .i64 p, .int .i64 s, .bool wd] 24) = w0 := ⟨_, rfl⟩
  rw [hw0]
  have HB : Hid (Below W.heap.size W w0) := Lib.hid (hw0 ▸ (Below.refl _ _).alloc (Nat.le_refl _) _)
  have HR : Hid (Whole w0 W.heap.size 24 #[.int .u32 (c : Nat), .int .i64 p, .int .i64 s, .bool wd]) := Lib.hid (hw0 ▸ Whole.new W 24 _ rfl)
  clear hw0
  refine (awake_any w0).mono ?_
  rintro e w1 ⟨rfl, hb1⟩
  have HB := Lib.hid (HB.out.trans (hb1.mono HB.out.size))
  have HR := Lib.hid (HR.out.below' hb1)
  clear hb1
  have r0 := HR.out.cell 0
  have r1 := HR.out.cell 1
  have r2 := HR.out.cell 2
  have r3 := HR.out.cell 3
  simp at r0 r1 r2 r3
  go_wp2_with fail
  refine (HE6.out w1).mono ?_
  rintro e w2 ⟨A6, c6, rfl, h6, hb2⟩
  have HB := Lib.hid (HB.out.trans (hb2.mono HB.out.size))
  have HR := Lib.hid (HR.out.below' hb2)
  have H6 := Lib.hid h6
  clear hb2 h6
  have r0 := HR.out.cell 0
  have r1 := HR.out.cell 1
  have r2 := HR.out.cell 2
  have r3 := HR.out.cell 3
  simp at r0 r1 r2 r3
  go_wp2_with fail
  refine (HE7.out w2).mono ?_
  rintro e w3 ⟨A7, c7, rfl, h7, hb3⟩
  have HB := Lib.hid (HB.out.trans (hb3.mono HB.out.size))
  have HR := Lib.hid (HR.out.below' hb3)
  have H6 := Lib.hid (H6.out.below hb3)
  have s6 := str_of c6 H6.out
  have s7 := str_of c7 h7
  clear hb3 h7
  have r0 := HR.out.cell 0
  have r1 := HR.out.cell 1
  have r2 := HR.out.cell 2
  have r3 := HR.out.cell 3
  simp at r0 r1 r2 r3
  go_wp2_with fail
  refine (HC.out w3).mono ?_
  rintro e w4 ⟨rfl, hb4⟩
  have HB := Lib.hid (HB.out.trans (hb4.mono HB.out.size))
  have HR := Lib.hid (HR.out.below' hb4)
  clear hb4 s6 s7
  have r0 := HR.out.cell 0
  have r1 := HR.out.cell 1
  have r2 := HR.out.cell 2
  have r3 := HR.out.cell 3
  simp at r0 r1 r2 r3
  go_wp2_with fail
  refine (HP.out _ HB.out).mono ?_
  rintro e w6 ⟨rfl, hb6⟩
  have HB := Lib.hid (HB.out.trans (hb6.mono HB.out.size))
  have HR := Lib.hid (HR.out.below' hb6)
  clear hb6
  obtain ⟨w7, hw7⟩ : ∃ w7, w6.alloc (.cells #[.int .u32 0, .int .i64 0, .int .i64 0, .bool false] 24) = w7 := ⟨_, rfl⟩
  have HY : Hid (Whole w7 w6.heap.size 24 #[.int .u32 0, .int .i64 0, .int .i64 0, .bool false]) := Lib.hid (hw7 ▸ Whole.new w6 24 _ rfl)
  have HR : Hid (Whole w7 W.heap.size 24 #[.int .u32 (c : Nat), .int .i64 p, .int .i64 s, .bool wd]) := Lib.hid (hw7 ▸ HR.out.alloc _)
  have hlR := HR.out.lt
  have HB : Hid (Below W.heap.size W w7) := Lib.hid (hw7 ▸ HB.out.alloc HB.out.size _)
  have HW7 := Lib.hid hw7
  clear hw7
  go_wp2_with fail
  rw [HW7.out]
  have r0 := HR.out.cell 0
  have r1 := HR.out.cell 1
  have r2 := HR.out.cell 2
  have r3 := HR.out.cell 3
  simp at r0 r1 r2 r3
  have y0 := HY.out.cell 0
  have y1 := HY.out.cell 1
  have y2 := HY.out.cell 2
  have y3 := HY.out.cell 3
  simp at y0 y1 y2 y3
  refine wp_region_free2 (mk := fun j => [5].any (Nat.beq j)) (by kernel_rfl) (by kernel_rfl) (by kernel_rfl) ?_
  iterate 5 (first | ((with_reducible refine vfree_skip rfl ?_ ?_); (focus rfl); intro K hK; go_big_quiet_op; go_big_quiet_on) | ((with_reducible refine vfree_hard ?_ ?_ ?_); (focus rfl); (focus rfl); intro K hK; go_big_quiet_op; go_big_quiet_on))
  refine vfree_one (.tuple #[.int .u32 0, .int .i64 0, .int .i64 0, .bool false]) rfl rfl rfl (fun w' hw' => ?_) ?_
  · have hb := hw'.1.below
    go_simp
    exact (HQ.out w' (HB.out.trans (hb.mono HB.out.size))).mono fun _ _ ⟨h1, h2⟩ => ⟨h1, h2⟩
  intro K hK
  go_big_quiet_op
  go_big_quiet_on
  iterate 9 (first | ((with_reducible refine vfree_skip rfl ?_ ?_); (focus rfl); intro K hK; go_big_quiet_op; go_big_quiet_on) | ((with_reducible refine vfree_hard ?_ ?_ ?_); (focus rfl); (focus rfl); intro K hK; go_big_quiet_op; go_big_quiet_on))
  refine vfree_nil ?_
  intro w8 hb8 hk8
  have HB := Lib.hid (HB.out.trans (hb8.mono HB.out.size))
  have HR := Lib.hid (HR.out.below' hb8)
  have HY := Lib.hid (HY.out.below' hb8)
  clear hk8 hb8
  have HO := Lib.hid (over_any A 0 0 xs _ w8 (HS.out _ HB.out) (by omega))
  have r0 := HR.out.cell 0
  have r1 := HR.out.cell 1
  have r2 := HR.out.cell 2
  have r3 := HR.out.cell 3
  simp at r0 r1 r2 r3
  have y0 := HY.out.cell 0
  have y1 := HY.out.cell 1
  have y2 := HY.out.cell 2
  have y3 := HY.out.cell 3
  simp at y0 y1 y2 y3
  go_wp2_with fail
  refine HO.out.mono ?_
  rintro e w9 ⟨A2, cp, g, rfl, hg0, hRd, hc1, hc2, hb9⟩
  have hr8 := HR.out.lt
  have hy8 := HY.out.lt
  have HB := Lib.hid (HB.out.trans (hb9.mono HB.out.size))
  have HR := Lib.hid ((HR.out.below' hb9).alloc (.cells #[.pointer (some ⟨g, 0, none⟩)] 37))
  have HY := Lib.hid ((HY.out.below' hb9).alloc (.cells #[.pointer (some ⟨g, 0, none⟩)] 37))
  have HQ9 := Lib.hid (Whole.new w9 37 #[.pointer (some ⟨g, 0, none⟩)] rfl)
  have HRd := Lib.hid (hRd.below ((Below.refl w9.heap.size w9).alloc (Nat.le_refl _) (.cells #[.pointer (some ⟨g, 0, none⟩)] 37)))
  have HB := Lib.hid (HB.out.alloc HB.out.size (.cells #[.pointer (some ⟨g, 0, none⟩)] 37))
  have hgl := hRd.1.lt
  obtain ⟨q, hq⟩ : ∃ q, w9.heap.size = q := ⟨_, rfl⟩
  rw [hq] at HQ9 hgl
  clear hb9 hRd HO
  have hmf : ∀ (fn : Fn) (first cap : Array Value) (w : World), (Instr.makeFunc fn first cap).run Try.prog w = .ok (.func fn first cap) w := fun _ _ _ _ => rfl
  go_wp2_with fail
  obtain ⟨w10, hw10⟩ : ∃ w10, w9.alloc (.cells #[.pointer (some ⟨g, 0, none⟩)] 37) = w10 := ⟨_, rfl⟩
  rw [hw10] at HR HY HRd HB HQ9 ⊢
  try rw [hq]
  clear hw10
  have hg10 := HRd.out.1.lt
  have hr10 := HR.out.lt
  have hy10 := HY.out.lt
  refine (tryT_throw 14 #[.pointer (some ⟨q, 0, none⟩), .pointer (some ⟨W.heap.size, 0, none⟩)] K2 w10 (fun a b => Alone a b g) (fun _ => by kernel_rfl) (fun a b hm => ⟨hm.size, fun k t cs hk hw => hm.whole hw (by omega)⟩)
    (fun w' hb => cloL_throw g q W.heap.size _ _ _ wd K2 w' (HQ9.out.below' hb) (HR.out.below' hb) (by have := hb.size; omega) (fun w'' hb2 => HRD.out g A2 cp w'' ((HRd.out.below hb).below hb2) hc1 hc2))).mono ?_
  rintro e w11 ⟨rfl, u1, u2, hb4, hM, hb5⟩
  have hb4s := hb4.size
  have HR := Lib.hid ((hM.whole (HR.out.below' hb4) (by omega)).below hb5 (by omega))
  have HY := Lib.hid ((hM.whole (HY.out.below' hb4) (by omega)).below hb5 (by omega))
  have HB := Lib.hid ((hM.below (HB.out.trans (hb4.mono HB.out.size)) (by omega) (by have := HB.out.size; omega)).trans (hb5.mono HB.out.size))
  clear hM hb4 hb5
  obtain ⟨w12, hw12⟩ : ∃ w12, w11.alloc (.cells #[.int .u32 0, .int .i64 0, .int .i64 0, .bool false] 24) = w12 := ⟨_, rfl⟩
  have HZ : Hid (Whole w12 w11.heap.size 24 #[.int .u32 0, .int .i64 0, .int .i64 0, .bool false]) := Lib.hid (hw12 ▸ Whole.new w11 24 _ rfl)
  have HY : Hid (Whole w12 w6.heap.size 24 #[.int .u32 0, .int .i64 0, .int .i64 0, .bool false]) := Lib.hid (hw12 ▸ HY.out.alloc _)
  have HR : Hid (Whole w12 W.heap.size 24 #[.int .u32 (c : Nat), .int .i64 p, .int .i64 s, .bool wd]) := Lib.hid (hw12 ▸ HR.out.alloc _)
  have HB : Hid (Below W.heap.size W w12) := Lib.hid (hw12 ▸ HB.out.alloc HB.out.size _)
  have HW12 := Lib.hid hw12
  clear hw12
  have r0 := HR.out.cell 0
  have r1 := HR.out.cell 1
  have r2 := HR.out.cell 2
  have r3 := HR.out.cell 3
  simp at r0 r1 r2 r3
  have y0 := HY.out.cell 0
  have y1 := HY.out.cell 1
  have y2 := HY.out.cell 2
  have y3 := HY.out.cell 3
  simp at y0 y1 y2 y3
  have z0 := HZ.out.cell 0
  have z1 := HZ.out.cell 1
  have z2 := HZ.out.cell 2
  have z3 := HZ.out.cell 3
  simp at z0 z1 z2 z3
  simp only [← HW12.out] at r0 r1 r2 r3 y0 y1 y2 y3 z0 z1 z2 z3
  go_wp2
  go_ret
  exact ⟨rfl, by have := HB.out; rw [← HW12.out] at this; exact this⟩
set_option maxHeartbeats 8000000 in
set_option maxRecDepth 100000 in
theorem law_bad_some (c : Nat) (p s : Int) (wd : Bool) (A : Option Addr) (n cA L : Nat) (X : List UInt8) (W : World) (hn : n ≤ 300) (hL1 : 1 ≤ L) (hL2 : L ≤ 24) (hXL : X.length = L) (at' M : Nat) (hat : at' ≤ n) (hM : n - at' = M) (hnc : n ≤ cA) (hca : ¬ cA = at') (xs : List UInt8) (c2 p2 s2 : Nat)
    (HE6 : Hid (∀ w, Calls Try.prog 6 #[.int .u32 (c : Nat), .int .i64 p, .int .i64 s, .bool wd] w fun e w' => ∃ A cp, e = .returned (.slice A 0 cp) ∧ Bs w' (fun b => w.heap.size ≤ b) A 0 [] ∧ Below w.heap.size w w'))
    (HE7 : Hid (∀ w, Calls Try.prog 7 #[.agg #[.int .u32 (c : Nat), .int .i64 p, .int .i64 s, .bool wd]] w fun e w' => ∃ A cp, e = .returned (.tuple #[.slice A 0 cp, .int .i64 13]) ∧ Bs w' (fun b => w.heap.size ≤ b) A 0 [] ∧ Below w.heap.size w w'))
    (HC : Hid (∀ w, Calls Try.prog 8 #[.agg #[.int .u32 (c : Nat), .int .i64 p, .int .i64 s, .bool wd]] w fun e w' => e = .returned (.int .i64 13) ∧ Below w.heap.size w w'))
    (HL : Hid (∀ (c : Nat) (p s : Int) w, Calls Try.prog 9 #[.agg #[.int .u32 (c : Nat), .int .i64 p, .int .i64 s, .bool wd]] w fun e w' => e = .returned (.int .i64 (L : Nat)) ∧ Below w.heap.size w w'))
    (HP : Hid (∀ w, Below W.heap.size W w → Calls Try.prog 10 #[.slice A n cA, .int .i64 (at' : Nat), .bool wd] w fun e w' => e = .returned (.tuple #[tl c2 p2 s2 wd, .int .i64 ((at' + L : Nat) : Int), .int .i64 0]) ∧ Below w.heap.size w w'))
    (HQ : Hid (∀ w, Below W.heap.size W w → Calls Try.prog 11 #[.slice (Option.map (fun x => x.add at') A) M (cA - at'), .bool wd] w (QP w true c2 p2 s2)))
    (HS : Hid (∀ w, Below W.heap.size W w → Bs w (fun b => b < W.heap.size) (Option.map (fun x => x.add at') A) M xs))
    (HRD : Hid (∀ g A2 cp w', Rdr w' g A2 M cp xs 0 → M ≤ cp → cp ≤ 9223372036854775807 → Calls Try.prog 15 #[.pointer (some ⟨g, 0, none⟩), .bool wd] w' fun e w'' => e = .returned (tl c2 p2 s2 wd) ∧ Moved w' g A2 M cp L w''))
    : Calls Try.prog 3 #[.agg #[.int .u32 (c : Nat), .int .i64 p, .int .i64 s, .bool wd], .slice A n cA, .int .i64 (at' : Nat)] W fun e w' => e = .returned (.bool true) ∧ Below W.heap.size W w' := by
  have d1 : decide (300 < n) = false := by simpa using hn
  have d1' : decide ((300 : Int) < (n : Int)) = false := by simp; omega
  have l1 : (L == 0) = false := by rw [beq_eq_false_iff_ne]; omega
  have l1' : ((L : Int) == 0) = false := by rw [beq_eq_false_iff_ne]; omega
  have l2 : decide (0 < L) = true := by simp; omega
  have l2' : decide ((0 : Int) < (L : Int)) = true := by simp; omega
  have Q0 := eq_tl 0 0 0 false
  have d3 : decide (n < at') = false := by simpa using hat
  have d3' : decide ((n : Int) < (at' : Int)) = false := by simp; omega
  have i1 : (at' : Int) ≤ (n : Int) := by omega
  have i2 : (n : Int) ≤ (cA : Int) := by omega
  have hM3 : M ≤ 300 := by omega
  have Q1 := eq_tl (c2 : Nat) (p2 : Nat) (s2 : Nat) wd
  have e1 : IntKind.i64.wrap ((at' : Int) + (L : Int)) = (at' : Int) + (L : Int) := IntWalk.i64_in _ (by omega)
  clear hn
  go_enter Try.func3, Try.ntmps3
  go_wp2_with fail
  obtain ⟨w0, hw0⟩ : ∃ w0, W.alloc (.cells #[.int .u32 (c : Nat), .int .i64 p, .int .i64 s, .bool wd] 24) = w0 := ⟨_, rfl⟩
  rw [hw0]
  have HB : Hid (Below W.heap.size W w0) := Lib.hid (hw0 ▸ (Below.refl _ _).alloc (Nat.le_refl _) _)
  have HR : Hid (Whole w0 W.heap.size 24 #[.int .u32 (c : Nat), .int .i64 p, .int .i64 s, .bool wd]) := Lib.hid (hw0 ▸ Whole.new W 24 _ rfl)
  clear hw0
  refine (awake_any w0).mono ?_
  rintro e w1 ⟨rfl, hb1⟩
  have HB := Lib.hid (HB.out.trans (hb1.mono HB.out.size))
  have HR := Lib.hid (HR.out.below' hb1)
  clear hb1
  have r0 := HR.out.cell 0
  have r1 := HR.out.cell 1
  have r2 := HR.out.cell 2
  have r3 := HR.out.cell 3
  simp at r0 r1 r2 r3
  go_wp2_with fail
  refine (HE6.out w1).mono ?_
  rintro e w2 ⟨A6, c6, rfl, h6, hb2⟩
  have HB := Lib.hid (HB.out.trans (hb2.mono HB.out.size))
  have HR := Lib.hid (HR.out.below' hb2)
  have H6 := Lib.hid h6
  clear hb2 h6
  have r0 := HR.out.cell 0
  have r1 := HR.out.cell 1
  have r2 := HR.out.cell 2
  have r3 := HR.out.cell 3
  simp at r0 r1 r2 r3
  go_wp2_with fail
  refine (HE7.out w2).mono ?_
  rintro e w3 ⟨A7, c7, rfl, h7, hb3⟩
  have HB := Lib.hid (HB.out.trans (hb3.mono HB.out.size))
  have HR := Lib.hid (HR.out.below' hb3)
  have H6 := Lib.hid (H6.out.below hb3)
  have s6 := str_of c6 H6.out
  have s7 := str_of c7 h7
  clear hb3 h7
  have r0 := HR.out.cell 0
  have r1 := HR.out.cell 1
  have r2 := HR.out.cell 2
  have r3 := HR.out.cell 3
  simp at r0 r1 r2 r3
  go_wp2_with fail
  refine (HC.out w3).mono ?_
  rintro e w4 ⟨rfl, hb4⟩
  have HB := Lib.hid (HB.out.trans (hb4.mono HB.out.size))
  have HR := Lib.hid (HR.out.below' hb4)
  clear hb4 s6 s7
  have r0 := HR.out.cell 0
  have r1 := HR.out.cell 1
  have r2 := HR.out.cell 2
  have r3 := HR.out.cell 3
  simp at r0 r1 r2 r3
  go_wp2_with fail
  refine (HP.out _ HB.out).mono ?_
  rintro e w6 ⟨rfl, hb6⟩
  have HB := Lib.hid (HB.out.trans (hb6.mono HB.out.size))
  have HR := Lib.hid (HR.out.below' hb6)
  clear hb6
  obtain ⟨w7, hw7⟩ : ∃ w7, w6.alloc (.cells #[.int .u32 (c2 : Nat), .int .i64 (p2 : Nat), .int .i64 (s2 : Nat), .bool wd] 24) = w7 := ⟨_, rfl⟩
  have HY : Hid (Whole w7 w6.heap.size 24 #[.int .u32 (c2 : Nat), .int .i64 (p2 : Nat), .int .i64 (s2 : Nat), .bool wd]) := Lib.hid (hw7 ▸ Whole.new w6 24 _ rfl)
  have HR : Hid (Whole w7 W.heap.size 24 #[.int .u32 (c : Nat), .int .i64 p, .int .i64 s, .bool wd]) := Lib.hid (hw7 ▸ HR.out.alloc _)
  have hlR := HR.out.lt
  have HB : Hid (Below W.heap.size W w7) := Lib.hid (hw7 ▸ HB.out.alloc HB.out.size _)
  have HW7 := Lib.hid hw7
  clear hw7
  go_wp2_with fail
  rw [HW7.out]
  have r0 := HR.out.cell 0
  have r1 := HR.out.cell 1
  have r2 := HR.out.cell 2
  have r3 := HR.out.cell 3
  simp at r0 r1 r2 r3
  have y0 := HY.out.cell 0
  have y1 := HY.out.cell 1
  have y2 := HY.out.cell 2
  have y3 := HY.out.cell 3
  simp at y0 y1 y2 y3
  refine wp_region_free2 (mk := fun j => [5].any (Nat.beq j)) (by kernel_rfl) (by kernel_rfl) (by kernel_rfl) ?_
  iterate 5 (first | ((with_reducible refine vfree_skip rfl ?_ ?_); (focus rfl); intro K hK; go_big_quiet_op; go_big_quiet_on) | ((with_reducible refine vfree_hard ?_ ?_ ?_); (focus rfl); (focus rfl); intro K hK; go_big_quiet_op; go_big_quiet_on))
  refine vfree_one (.tuple #[.int .u32 (c2 : Nat), .int .i64 (p2 : Nat), .int .i64 (s2 : Nat), .bool true]) rfl rfl rfl (fun w' hw' => ?_) ?_
  · have hb := hw'.1.below
    go_simp
    exact (HQ.out w' (HB.out.trans (hb.mono HB.out.size))).mono fun _ _ ⟨h1, h2⟩ => ⟨h1, h2⟩
  intro K hK
  go_big_quiet_op
  go_big_quiet_on
  iterate 9 (first | ((with_reducible refine vfree_skip rfl ?_ ?_); (focus rfl); intro K hK; go_big_quiet_op; go_big_quiet_on) | ((with_reducible refine vfree_hard ?_ ?_ ?_); (focus rfl); (focus rfl); intro K hK; go_big_quiet_op; go_big_quiet_on))
  refine vfree_nil ?_
  intro w8 hb8 hk8
  have HB := Lib.hid (HB.out.trans (hb8.mono HB.out.size))
  have HR := Lib.hid (HR.out.below' hb8)
  have HY := Lib.hid (HY.out.below' hb8)
  clear hk8 hb8
  have HO := Lib.hid (over_any (Option.map (fun x => x.add at') A) M (cA - at') xs _ w8 (HS.out _ HB.out) (by omega))
  have r0 := HR.out.cell 0
  have r1 := HR.out.cell 1
  have r2 := HR.out.cell 2
  have r3 := HR.out.cell 3
  simp at r0 r1 r2 r3
  have y0 := HY.out.cell 0
  have y1 := HY.out.cell 1
  have y2 := HY.out.cell 2
  have y3 := HY.out.cell 3
  simp at y0 y1 y2 y3
  go_wp2_with fail
  refine HO.out.mono ?_
  rintro e w9 ⟨A2, cp, g, rfl, hg0, hRd, hc1, hc2, hb9⟩
  have hr8 := HR.out.lt
  have hy8 := HY.out.lt
  have HB := Lib.hid (HB.out.trans (hb9.mono HB.out.size))
  have HR := Lib.hid ((HR.out.below' hb9).alloc (.cells #[.pointer (some ⟨g, 0, none⟩)] 37))
  have HY := Lib.hid ((HY.out.below' hb9).alloc (.cells #[.pointer (some ⟨g, 0, none⟩)] 37))
  have HQ9 := Lib.hid (Whole.new w9 37 #[.pointer (some ⟨g, 0, none⟩)] rfl)
  have HRd := Lib.hid (hRd.below ((Below.refl w9.heap.size w9).alloc (Nat.le_refl _) (.cells #[.pointer (some ⟨g, 0, none⟩)] 37)))
  have HB := Lib.hid (HB.out.alloc HB.out.size (.cells #[.pointer (some ⟨g, 0, none⟩)] 37))
  have hgl := hRd.1.lt
  obtain ⟨q, hq⟩ : ∃ q, w9.heap.size = q := ⟨_, rfl⟩
  rw [hq] at HQ9 hgl
  clear hb9 hRd HO
  have hmf : ∀ (fn : Fn) (first cap : Array Value) (w : World), (Instr.makeFunc fn first cap).run Try.prog w = .ok (.func fn first cap) w := fun _ _ _ _ => rfl
  go_wp2_with fail
  obtain ⟨w10, hw10⟩ : ∃ w10, w9.alloc (.cells #[.pointer (some ⟨g, 0, none⟩)] 37) = w10 := ⟨_, rfl⟩
  rw [hw10] at HR HY HRd HB HQ9 ⊢
  try rw [hq]
  clear hw10
  have hg10 := HRd.out.1.lt
  have hr10 := HR.out.lt
  have hy10 := HY.out.lt
  refine (tryT_ret 14 #[.pointer (some ⟨q, 0, none⟩), .pointer (some ⟨W.heap.size, 0, none⟩)] c2 p2 s2 wd w10 (fun a b => Moved a g A2 M cp L b) (fun _ => by kernel_rfl) (fun a b hm => ⟨hm.1.size, fun k t cs hk hw => hm.1.whole hw (by omega)⟩)
    (fun w' hb => cloL_ret g q W.heap.size _ _ _ A2 M cp L c2 p2 s2 wd w' (HQ9.out.below' hb) (HR.out.below' hb) (by have := hb.size; omega) (fun w'' hb2 => HRD.out g A2 cp w'' ((HRd.out.below hb).below hb2) hc1 hc2))).mono ?_
  rintro e w11 ⟨rfl, u1, u2, hb4, hM, hb5⟩
  have hb4s := hb4.size
  have HR := Lib.hid ((hM.1.whole (HR.out.below' hb4) (by omega)).below hb5 (by omega))
  have HY := Lib.hid ((hM.1.whole (HY.out.below' hb4) (by omega)).below hb5 (by omega))
  have HB := Lib.hid ((hM.1.below (HB.out.trans (hb4.mono HB.out.size)) (by omega) (by have := HB.out.size; omega)).trans (hb5.mono HB.out.size))
  clear hM hb4 hb5
  obtain ⟨w12, hw12⟩ : ∃ w12, w11.alloc (.cells #[.int .u32 (c2 : Nat), .int .i64 (p2 : Nat), .int .i64 (s2 : Nat), .bool wd] 24) = w12 := ⟨_, rfl⟩
  have HZ : Hid (Whole w12 w11.heap.size 24 #[.int .u32 (c2 : Nat), .int .i64 (p2 : Nat), .int .i64 (s2 : Nat), .bool wd]) := Lib.hid (hw12 ▸ Whole.new w11 24 _ rfl)
  have HY : Hid (Whole w12 w6.heap.size 24 #[.int .u32 (c2 : Nat), .int .i64 (p2 : Nat), .int .i64 (s2 : Nat), .bool wd]) := Lib.hid (hw12 ▸ HY.out.alloc _)
  have HR : Hid (Whole w12 W.heap.size 24 #[.int .u32 (c : Nat), .int .i64 p, .int .i64 s, .bool wd]) := Lib.hid (hw12 ▸ HR.out.alloc _)
  have HB : Hid (Below W.heap.size W w12) := Lib.hid (hw12 ▸ HB.out.alloc HB.out.size _)
  have HW12 := Lib.hid hw12
  clear hw12
  have r0 := HR.out.cell 0
  have r1 := HR.out.cell 1
  have r2 := HR.out.cell 2
  have r3 := HR.out.cell 3
  simp at r0 r1 r2 r3
  have y0 := HY.out.cell 0
  have y1 := HY.out.cell 1
  have y2 := HY.out.cell 2
  have y3 := HY.out.cell 3
  simp at y0 y1 y2 y3
  have z0 := HZ.out.cell 0
  have z1 := HZ.out.cell 1
  have z2 := HZ.out.cell 2
  have z3 := HZ.out.cell 3
  simp at z0 z1 z2 z3
  simp only [← HW12.out] at r0 r1 r2 r3 y0 y1 y2 y3 z0 z1 z2 z3
  go_wp2_with fail
  rw [HW12.out]
  refine (HL.out _ _ _ w12).mono ?_
  rintro e w13 ⟨rfl, hb13⟩
  have HB := Lib.hid (HB.out.trans (hb13.mono HB.out.size))
  have HR := Lib.hid (HR.out.below' hb13)
  have HY := Lib.hid (HY.out.below' hb13)
  have HZ := Lib.hid (HZ.out.below' hb13)
  clear hb13
  have r0 := HR.out.cell 0
  have r1 := HR.out.cell 1
  have r2 := HR.out.cell 2
  have r3 := HR.out.cell 3
  simp at r0 r1 r2 r3
  have y0 := HY.out.cell 0
  have y1 := HY.out.cell 1
  have y2 := HY.out.cell 2
  have y3 := HY.out.cell 3
  simp at y0 y1 y2 y3
  have z0 := HZ.out.cell 0
  have z1 := HZ.out.cell 1
  have z2 := HZ.out.cell 2
  have z3 := HZ.out.cell 3
  simp at z0 z1 z2 z3
  go_wp2
  go_ret
  exact ⟨rfl, HB.out⟩
end Go.Proofs.Ytafdflpjfdeohaa
