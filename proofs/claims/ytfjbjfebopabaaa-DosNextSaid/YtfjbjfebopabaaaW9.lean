import Derived.Test.YtfjbjfebopabaaaW8
import Derived.Test.YtfjbjfebopabaaaBlk
namespace Go.Proofs.Ytfjbjfebopabaaa
open Go.RowKit

theorem back_date {y mo d h mi s : Int} (hr : RightT y mo d h mi s) : 1980 + dateI y mo d / 512 = y ∧ dateI y mo d / 32 % 16 = mo ∧ dateI y mo d % 32 = d := by
  obtain ⟨a1, a2, a3, a4, a5, a6, a7, a8, a9, a10, a11, a12, a13⟩ := hr
  unfold dateI
  omega
theorem back_clock {y mo d h mi s : Int} (hr : RightT y mo d h mi s) : clockI h mi s / 2048 = h ∧ clockI h mi s / 32 % 64 = mi ∧ clockI h mi s % 32 * 2 = s := by
  obtain ⟨a1, a2, a3, a4, a5, a6, a7, a8, a9, a10, a11, a12, a13⟩ := hr
  unfold clockI
  omega
theorem decode_back (y mo d h mi s : Int) (w : World) (hb : rightB y mo d h mi s = true) :
    Calls Try.prog 9 #[.int .u16 (dateI y mo d), .int .u16 (clockI h mi s)] w fun e w' => e = .returned (.tuple #[tm y mo d h mi s, .int .i64 0]) ∧ Below w.heap.size w w' := by
  have hr := RightT.of hb
  obtain ⟨e1, e2, e3⟩ := back_date hr
  obtain ⟨e4, e5, e6⟩ := back_clock hr
  have hd : rightD (dateI y mo d) (clockI h mi s) = true := by unfold rightD; rw [e1, e2, e3, e4, e5, e6, hb]
  have h1 := dateI_bd hr
  have h2 := clockI_bd hr
  refine (decode_any _ _ w true hd h1.1 h1.2 h2.1 h2.2).mono ?_
  rintro e w' ⟨rfl, hb'⟩
  refine ⟨?_, hb'⟩
  show Ending.returned (.tuple #[tmD (dateI y mo d) (clockI h mi s), .int .i64 0]) = _
  unfold tmD
  rw [e1, e2, e3, e4, e5, e6]
theorem encode_b {y mo d h mi s : Int} {r : Bool} (w : World) (hb : rightB y mo d h mi s = r) :
    Calls Try.prog 8 #[tm y mo d h mi s] w fun e w' => e = .returned (.tuple #[.int .u16 (if r then dateI y mo d else 0), .int .u16 (if r then clockI h mi s else 0), .int .i64 (if r then 0 else 34)]) ∧ Below w.heap.size w w' := by
  cases r
  · exact encode_wrong _ _ _ _ _ _ w hb
  · exact encode_right _ _ _ _ _ _ w hb
theorem decode_b {a b : Int} {r : Bool} (w : World) (hr : rightD a b = r) (a0 : 0 ≤ a) (a1 : a < 65536) (b0 : 0 ≤ b) (b1 : b < 65536) :
    Calls Try.prog 9 #[.int .u16 a, .int .u16 b] w fun e w' => e = .returned (.tuple #[tm (if r then 1980 + a / 512 else 0) (if r then a / 32 % 16 else 0) (if r then a % 32 else 0) (if r then b / 2048 else 0) (if r then b / 32 % 64 else 0) (if r then b % 32 * 2 else 0), .int .i64 (if r then 0 else 34)]) ∧ Below w.heap.size w w' := by
  have := decode_any a b w r hr a0 a1 b0 b1
  cases r <;> exact this
theorem rdecode_b {a b : Int} {r : Bool} (w : World) (hr : rightD a b = r) (a0 : 0 ≤ a) (a1 : a < 65536) (b0 : 0 ≤ b) (b1 : b < 65536) :
    Calls Try.prog 10 #[.int .i64 a, .int .i64 b] w fun e w' => e = .returned (.tuple #[tm (if r then 1980 + a / 512 else 0) (if r then a / 32 % 16 else 0) (if r then a % 32 else 0) (if r then b / 2048 else 0) (if r then b / 32 % 64 else 0) (if r then b % 32 * 2 else 0), .bool r]) ∧ Below w.heap.size w w' := by
  have := rdecode_any a b w r hr a0 a1 b0 b1
  cases r <;> exact this
set_option maxHeartbeats 2000000 in
theorem codes_false_false (y mo d h mi s a b : Int) (w : World) (HR : Hid (rightB y mo d h mi s = false)) (HQ : Hid (rightD a b = false)) (a0 : 0 ≤ a) (a1 : a < 65536) (b0 : 0 ≤ b) (b1 : b < 65536) :
    Calls Try.prog 3 #[tm y mo d h mi s, .int .u16 a, .int .u16 b] w fun e w' => e = .returned (.bool true) ∧ Below w.heap.size w w' := by
  go_enter Try.func3, Try.ntmps3
  go_wp2_with fail
  refine (awake_any _).mono ?_
  rintro e w1 ⟨rfl, hb1⟩
  have T1 : Whole w1 w.heap.size 23 #[.int .i64 y, .int .i64 mo, .int .i64 d, .int .i64 h, .int .i64 mi, .int .i64 s] := (Whole.new w 23 _ rfl).below' hb1
  have B1 : Below w.heap.size w w1 := ((Below.refl _ _).alloc (Nat.le_refl _) _).trans (hb1.mono (by simp))
  have c1 := T1.cell
  have BB1 := Lib.hid B1
  clear hb1 B1
  go_wp2_with fail
  refine (rright_b _ HR.out).mono ?_
  rintro e w2 ⟨rfl, hb2⟩
  have T2 := T1.below' hb2
  have B2 := BB1.out.trans (hb2.mono BB1.out.size)
  have c2 := T2.cell
  have BB2 := Lib.hid B2
  clear hb2 B2 BB1 c1 T1
  go_wp2_with fail
  refine (encode_b _ HR.out).mono ?_
  rintro e w3 ⟨rfl, hb3⟩
  have T3 := T2.below' hb3
  have B3 := BB2.out.trans (hb3.mono BB2.out.size)
  have c3 := T3.cell
  have BB3 := Lib.hid B3
  clear hb3 B3 BB2 c2 T2
  go_wp2_with fail
  refine (decode_b _ HQ.out a0 a1 b0 b1).mono ?_
  rintro e w4 ⟨rfl, hb4⟩
  have T4 := T3.below' hb4
  have B4 := BB3.out.trans (hb4.mono BB3.out.size)
  have c4 := T4.cell
  have BB4 := Lib.hid B4
  clear hb4 B4 BB3 c3 T3
  have l4 := T4.lt
  go_wp2_with fail
  refine (rdecode_b _ HQ.out a0 a1 b0 b1).mono ?_
  rintro e w5 ⟨rfl, hb5⟩
  have X5 := (Whole.new w4 23 _ rfl).below' hb5
  have T5 := (T4.alloc _).below' hb5
  have B5 := (BB4.out.alloc BB4.out.size _).trans (hb5.mono (by have := BB4.out.size; simp; omega))
  have c5 := T5.cell
  have x5 := X5.cell
  have l5 := T5.lt
  have m5 := X5.lt
  have BB5 := Lib.hid B5
  clear hb5 B5 BB4 c4 T4
  go_wp2_with fail
  refine (right_b _ HR.out).mono ?_
  rintro e w6 ⟨rfl, hb6⟩
  have Y6 := (Whole.new w5 23 _ rfl).below' hb6
  have X6 := (X5.alloc _).below' hb6
  have T6 := (T5.alloc _).below' hb6
  have B6 := (BB5.out.alloc BB5.out.size _).trans (hb6.mono (by have := BB5.out.size; simp; omega))
  have c6 := T6.cell
  have x6 := X6.cell
  have y6 := Y6.cell
  have BB6 := Lib.hid B6
  clear hb6 B6 BB5 c5 T5 x5 X5 l5 m5
  have l6 := T6.lt
  have m6 := X6.lt
  go_wp2
  go_ret
  exact ⟨rfl, BB6.out⟩
set_option maxHeartbeats 2000000 in
theorem codes_false_true (y mo d h mi s a b : Int) (w : World) (HR : Hid (rightB y mo d h mi s = false)) (HQ : Hid (rightD a b = true)) (a0 : 0 ≤ a) (a1 : a < 65536) (b0 : 0 ≤ b) (b1 : b < 65536) :
    Calls Try.prog 3 #[tm y mo d h mi s, .int .u16 a, .int .u16 b] w fun e w' => e = .returned (.bool true) ∧ Below w.heap.size w w' := by
  go_enter Try.func3, Try.ntmps3
  go_wp2_with fail
  refine (awake_any _).mono ?_
  rintro e w1 ⟨rfl, hb1⟩
  have T1 : Whole w1 w.heap.size 23 #[.int .i64 y, .int .i64 mo, .int .i64 d, .int .i64 h, .int .i64 mi, .int .i64 s] := (Whole.new w 23 _ rfl).below' hb1
  have B1 : Below w.heap.size w w1 := ((Below.refl _ _).alloc (Nat.le_refl _) _).trans (hb1.mono (by simp))
  have c1 := T1.cell
  have BB1 := Lib.hid B1
  clear hb1 B1
  go_wp2_with fail
  refine (rright_b _ HR.out).mono ?_
  rintro e w2 ⟨rfl, hb2⟩
  have T2 := T1.below' hb2
  have B2 := BB1.out.trans (hb2.mono BB1.out.size)
  have c2 := T2.cell
  have BB2 := Lib.hid B2
  clear hb2 B2 BB1 c1 T1
  go_wp2_with fail
  refine (encode_b _ HR.out).mono ?_
  rintro e w3 ⟨rfl, hb3⟩
  have T3 := T2.below' hb3
  have B3 := BB2.out.trans (hb3.mono BB2.out.size)
  have c3 := T3.cell
  have BB3 := Lib.hid B3
  clear hb3 B3 BB2 c2 T2
  go_wp2_with fail
  refine (decode_b _ HQ.out a0 a1 b0 b1).mono ?_
  rintro e w4 ⟨rfl, hb4⟩
  have T4 := T3.below' hb4
  have B4 := BB3.out.trans (hb4.mono BB3.out.size)
  have c4 := T4.cell
  have BB4 := Lib.hid B4
  clear hb4 B4 BB3 c3 T3
  have l4 := T4.lt
  go_wp2_with fail
  refine (rdecode_b _ HQ.out a0 a1 b0 b1).mono ?_
  rintro e w5 ⟨rfl, hb5⟩
  have X5 := (Whole.new w4 23 _ rfl).below' hb5
  have T5 := (T4.alloc _).below' hb5
  have B5 := (BB4.out.alloc BB4.out.size _).trans (hb5.mono (by have := BB4.out.size; simp; omega))
  have c5 := T5.cell
  have x5 := X5.cell
  have l5 := T5.lt
  have m5 := X5.lt
  have BB5 := Lib.hid B5
  clear hb5 B5 BB4 c4 T4
  go_wp2_with fail
  refine (right_b _ HR.out).mono ?_
  rintro e w6 ⟨rfl, hb6⟩
  have Y6 := (Whole.new w5 23 _ rfl).below' hb6
  have X6 := (X5.alloc _).below' hb6
  have T6 := (T5.alloc _).below' hb6
  have B6 := (BB5.out.alloc BB5.out.size _).trans (hb6.mono (by have := BB5.out.size; simp; omega))
  have c6 := T6.cell
  have x6 := X6.cell
  have y6 := Y6.cell
  have BB6 := Lib.hid B6
  clear hb6 B6 BB5 c5 T5 x5 X5 l5 m5
  have l6 := T6.lt
  have m6 := X6.lt
  go_wp2
  go_ret
  exact ⟨rfl, BB6.out⟩
set_option maxHeartbeats 2000000 in
theorem codes_true_false (y mo d h mi s a b : Int) (w : World) (HR : Hid (rightB y mo d h mi s = true)) (HQ : Hid (rightD a b = false)) (a0 : 0 ≤ a) (a1 : a < 65536) (b0 : 0 ≤ b) (b1 : b < 65536) :
    Calls Try.prog 3 #[tm y mo d h mi s, .int .u16 a, .int .u16 b] w fun e w' => e = .returned (.bool true) ∧ Below w.heap.size w w' := by
  go_enter Try.func3, Try.ntmps3
  go_wp2_with fail
  refine (awake_any _).mono ?_
  rintro e w1 ⟨rfl, hb1⟩
  have T1 : Whole w1 w.heap.size 23 #[.int .i64 y, .int .i64 mo, .int .i64 d, .int .i64 h, .int .i64 mi, .int .i64 s] := (Whole.new w 23 _ rfl).below' hb1
  have B1 : Below w.heap.size w w1 := ((Below.refl _ _).alloc (Nat.le_refl _) _).trans (hb1.mono (by simp))
  have c1 := T1.cell
  have BB1 := Lib.hid B1
  clear hb1 B1
  go_wp2_with fail
  refine (rright_b _ HR.out).mono ?_
  rintro e w2 ⟨rfl, hb2⟩
  have T2 := T1.below' hb2
  have B2 := BB1.out.trans (hb2.mono BB1.out.size)
  have c2 := T2.cell
  have BB2 := Lib.hid B2
  clear hb2 B2 BB1 c1 T1
  go_wp2_with fail
  refine (encode_b _ HR.out).mono ?_
  rintro e w3 ⟨rfl, hb3⟩
  have T3 := T2.below' hb3
  have B3 := BB2.out.trans (hb3.mono BB2.out.size)
  have c3 := T3.cell
  have BB3 := Lib.hid B3
  clear hb3 B3 BB2 c2 T2
  go_wp2_with fail
  refine (decode_b _ HQ.out a0 a1 b0 b1).mono ?_
  rintro e w4 ⟨rfl, hb4⟩
  have T4 := T3.below' hb4
  have B4 := BB3.out.trans (hb4.mono BB3.out.size)
  have c4 := T4.cell
  have BB4 := Lib.hid B4
  clear hb4 B4 BB3 c3 T3
  have l4 := T4.lt
  go_wp2_with fail
  refine (rdecode_b _ HQ.out a0 a1 b0 b1).mono ?_
  rintro e w5 ⟨rfl, hb5⟩
  have X5 := (Whole.new w4 23 _ rfl).below' hb5
  have T5 := (T4.alloc _).below' hb5
  have B5 := (BB4.out.alloc BB4.out.size _).trans (hb5.mono (by have := BB4.out.size; simp; omega))
  have c5 := T5.cell
  have x5 := X5.cell
  have l5 := T5.lt
  have m5 := X5.lt
  have BB5 := Lib.hid B5
  clear hb5 B5 BB4 c4 T4
  go_wp2_with fail
  refine (right_b _ HR.out).mono ?_
  rintro e w6 ⟨rfl, hb6⟩
  have Y6 := (Whole.new w5 23 _ rfl).below' hb6
  have X6 := (X5.alloc _).below' hb6
  have T6 := (T5.alloc _).below' hb6
  have B6 := (BB5.out.alloc BB5.out.size _).trans (hb6.mono (by have := BB5.out.size; simp; omega))
  have c6 := T6.cell
  have x6 := X6.cell
  have y6 := Y6.cell
  have BB6 := Lib.hid B6
  clear hb6 B6 BB5 c5 T5 x5 X5 l5 m5
  have l6 := T6.lt
  have m6 := X6.lt
  clear X6 Y6
  go_wp2_with fail
  refine (rencode_any _ _ _ _ _ _ _ (RightT.of HR.out)).mono ?_
  rintro e w7 ⟨rfl, hb7⟩
  have T7 := T6.below' hb7
  have B7 := BB6.out.trans (hb7.mono BB6.out.size)
  have c7 := T7.cell
  have BB7 := Lib.hid B7
  clear hb7 B7 BB6 c6 T6 x6 y6
  go_wp2_with fail
  refine (decode_back _ _ _ _ _ _ _ HR.out).mono ?_
  rintro e w8 ⟨rfl, hb8⟩
  have T8 := T7.below' hb8
  have B8 := BB7.out.trans (hb8.mono BB7.out.size)
  have c8 := T8.cell
  have l8 := T8.lt
  have BB8 := Lib.hid B8
  have d0 := (dateI_bd (RightT.of HR.out)).1
  have d1 := (dateI_bd (RightT.of HR.out)).2
  have e0 := (clockI_bd (RightT.of HR.out)).1
  have e1 := (clockI_bd (RightT.of HR.out)).2
  clear hb8 B8 BB7 c7 T7
  go_wp2
  go_ret
  exact ⟨rfl, BB8.out.alloc BB8.out.size _⟩
set_option maxHeartbeats 2000000 in
theorem codes_true_true (y mo d h mi s a b : Int) (w : World) (HR : Hid (rightB y mo d h mi s = true)) (HQ : Hid (rightD a b = true)) (a0 : 0 ≤ a) (a1 : a < 65536) (b0 : 0 ≤ b) (b1 : b < 65536) :
    Calls Try.prog 3 #[tm y mo d h mi s, .int .u16 a, .int .u16 b] w fun e w' => e = .returned (.bool true) ∧ Below w.heap.size w w' := by
  go_enter Try.func3, Try.ntmps3
  go_wp2_with fail
  refine (awake_any _).mono ?_
  rintro e w1 ⟨rfl, hb1⟩
  have T1 : Whole w1 w.heap.size 23 #[.int .i64 y, .int .i64 mo, .int .i64 d, .int .i64 h, .int .i64 mi, .int .i64 s] := (Whole.new w 23 _ rfl).below' hb1
  have B1 : Below w.heap.size w w1 := ((Below.refl _ _).alloc (Nat.le_refl _) _).trans (hb1.mono (by simp))
  have c1 := T1.cell
  have BB1 := Lib.hid B1
  clear hb1 B1
  go_wp2_with fail
  refine (rright_b _ HR.out).mono ?_
  rintro e w2 ⟨rfl, hb2⟩
  have T2 := T1.below' hb2
  have B2 := BB1.out.trans (hb2.mono BB1.out.size)
  have c2 := T2.cell
  have BB2 := Lib.hid B2
  clear hb2 B2 BB1 c1 T1
  go_wp2_with fail
  refine (encode_b _ HR.out).mono ?_
  rintro e w3 ⟨rfl, hb3⟩
  have T3 := T2.below' hb3
  have B3 := BB2.out.trans (hb3.mono BB2.out.size)
  have c3 := T3.cell
  have BB3 := Lib.hid B3
  clear hb3 B3 BB2 c2 T2
  go_wp2_with fail
  refine (decode_b _ HQ.out a0 a1 b0 b1).mono ?_
  rintro e w4 ⟨rfl, hb4⟩
  have T4 := T3.below' hb4
  have B4 := BB3.out.trans (hb4.mono BB3.out.size)
  have c4 := T4.cell
  have BB4 := Lib.hid B4
  clear hb4 B4 BB3 c3 T3
  have l4 := T4.lt
  go_wp2_with fail
  refine (rdecode_b _ HQ.out a0 a1 b0 b1).mono ?_
  rintro e w5 ⟨rfl, hb5⟩
  have X5 := (Whole.new w4 23 _ rfl).below' hb5
  have T5 := (T4.alloc _).below' hb5
  have B5 := (BB4.out.alloc BB4.out.size _).trans (hb5.mono (by have := BB4.out.size; simp; omega))
  have c5 := T5.cell
  have x5 := X5.cell
  have l5 := T5.lt
  have m5 := X5.lt
  have BB5 := Lib.hid B5
  clear hb5 B5 BB4 c4 T4
  go_wp2_with fail
  refine (right_b _ HR.out).mono ?_
  rintro e w6 ⟨rfl, hb6⟩
  have Y6 := (Whole.new w5 23 _ rfl).below' hb6
  have X6 := (X5.alloc _).below' hb6
  have T6 := (T5.alloc _).below' hb6
  have B6 := (BB5.out.alloc BB5.out.size _).trans (hb6.mono (by have := BB5.out.size; simp; omega))
  have c6 := T6.cell
  have x6 := X6.cell
  have y6 := Y6.cell
  have BB6 := Lib.hid B6
  clear hb6 B6 BB5 c5 T5 x5 X5 l5 m5
  have l6 := T6.lt
  have m6 := X6.lt
  clear X6 Y6
  go_wp2_with fail
  refine (rencode_any _ _ _ _ _ _ _ (RightT.of HR.out)).mono ?_
  rintro e w7 ⟨rfl, hb7⟩
  have T7 := T6.below' hb7
  have B7 := BB6.out.trans (hb7.mono BB6.out.size)
  have c7 := T7.cell
  have BB7 := Lib.hid B7
  clear hb7 B7 BB6 c6 T6 x6 y6
  go_wp2_with fail
  refine (decode_back _ _ _ _ _ _ _ HR.out).mono ?_
  rintro e w8 ⟨rfl, hb8⟩
  have T8 := T7.below' hb8
  have B8 := BB7.out.trans (hb8.mono BB7.out.size)
  have c8 := T8.cell
  have l8 := T8.lt
  have BB8 := Lib.hid B8
  have d0 := (dateI_bd (RightT.of HR.out)).1
  have d1 := (dateI_bd (RightT.of HR.out)).2
  have e0 := (clockI_bd (RightT.of HR.out)).1
  have e1 := (clockI_bd (RightT.of HR.out)).2
  clear hb8 B8 BB7 c7 T7
  go_wp2
  go_ret
  exact ⟨rfl, BB8.out.alloc BB8.out.size _⟩
theorem codes_any (y mo d h mi s a b : Int) (w : World) (a0 : 0 ≤ a) (a1 : a < 65536) (b0 : 0 ≤ b) (b1 : b < 65536) :
    Calls Try.prog 3 #[tm y mo d h mi s, .int .u16 a, .int .u16 b] w fun e w' => e = .returned (.bool true) ∧ Below w.heap.size w w' := by
  cases hr : rightB y mo d h mi s <;> cases hq : rightD a b
  · exact codes_false_false y mo d h mi s a b w hr hq a0 a1 b0 b1
  · exact codes_false_true y mo d h mi s a b w hr hq a0 a1 b0 b1
  · exact codes_true_false y mo d h mi s a b w hr hq a0 a1 b0 b1
  · exact codes_true_true y mo d h mi s a b w hr hq a0 a1 b0 b1
end Go.Proofs.Ytfjbjfebopabaaa
