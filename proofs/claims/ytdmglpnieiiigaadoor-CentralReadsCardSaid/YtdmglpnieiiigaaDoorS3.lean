/- A header: whether there may be it, its version and its flags. -/
import Derived.Test.YtdmglpnieiiigaaDoorS2
import Derived.Test.YtdmglpnieiiigaaDoorH1
namespace Go.Proofs.YtdmglpnieiiigaaDoor
open Go.RowKit

def sizeOk (me p z : Int) : Bool := decide (0 ≤ z) && decide (z ≤ 16777216) && decide (0 ≤ p) && decide (p ≤ 33554432) && !((me == 0) && !(p == z))
def codeH (s : ByteArray) (tr : Bool) (me p z : Int) : Int := if nameOk s = false then 10 else if tr = false then 34 else if (!(me == 0) && !(me == 8)) = true then 33 else if sizeOk me p z = false then 13 else 0
theorem codeH_name {s : ByteArray} {tr : Bool} {me p z : Int} (h : nameOk s = false) : codeH s tr me p z = 10 := by unfold codeH; rw [if_pos h]
theorem codeH_time {s : ByteArray} {tr : Bool} {me p z : Int} (h : nameOk s = true) (h2 : tr = false) : codeH s tr me p z = 34 := by unfold codeH; rw [if_neg (by rw [h]; simp), if_pos h2]
theorem codeH_method {s : ByteArray} {tr : Bool} {me p z : Int} (h : nameOk s = true) (h2 : tr = true) (h3 : (!(me == 0) && !(me == 8)) = true) : codeH s tr me p z = 33 := by unfold codeH; rw [if_neg (by rw [h]; simp), if_neg (by rw [h2]; simp), if_pos h3]
theorem codeH_size {s : ByteArray} {tr : Bool} {me p z : Int} (h : nameOk s = true) (h2 : tr = true) (h3 : (!(me == 0) && !(me == 8)) = false) (h4 : sizeOk me p z = false) : codeH s tr me p z = 13 := by unfold codeH; rw [if_neg (by rw [h]; simp), if_neg (by rw [h2]; simp), if_neg (by rw [h3]; simp), if_pos h4]
theorem codeH_ok {s : ByteArray} {tr : Bool} {me p z : Int} (h : nameOk s = true) (h2 : tr = true) (h3 : (!(me == 0) && !(me == 8)) = false) (h4 : sizeOk me p z = true) : codeH s tr me p z = 0 := by unfold codeH; rw [if_neg (by rw [h]; simp), if_neg (by rw [h2]; simp), if_neg (by rw [h3]; simp), if_neg (by rw [h4]; simp)]

theorem hversion_any (s : ByteArray) (y mo d h mi se me : Int) (c : Nat) (p z : Int) (wd lt : Bool) (w : World) :
    Calls Tryd.prog 22 #[.agg #[.string s, .int .i64 y, .int .i64 mo, .int .i64 d, .int .i64 h, .int .i64 mi, .int .i64 se, .int .i64 me, .int .u32 (c : Nat), .int .i64 p, .int .i64 z, .bool wd, .bool lt]] w fun e w' => e = .returned (.int .i64 (if wd = true then 45 else 20)) ∧ Below w.heap.size w w' := by
  cases wd
  · go_enter Tryd.func22, Tryd.ntmps22
    go_wp2
    go_ret
    exact ⟨rfl, (Below.refl _ _).alloc (Nat.le_refl _) _⟩
  · go_enter Tryd.func22, Tryd.ntmps22
    go_wp2
    go_ret
    exact ⟨rfl, (Below.refl _ _).alloc (Nat.le_refl _) _⟩
def flagsH (s : ByteArray) (lt : Bool) : Int := (if lt = true then 8 else 0) + (if ascii s = true then 0 else 2048)
theorem hflags_any (s : ByteArray) (y mo d h mi se me : Int) (c : Nat) (p z : Int) (wd lt : Bool) (w : World) (hs : s.size < 9223372036854775807) :
    Calls Tryd.prog 23 #[.agg #[.string s, .int .i64 y, .int .i64 mo, .int .i64 d, .int .i64 h, .int .i64 mi, .int .i64 se, .int .i64 me, .int .u32 (c : Nat), .int .i64 p, .int .i64 z, .bool wd, .bool lt]] w fun e w' => e = .returned (.int .i64 (flagsH s lt)) ∧ Below w.heap.size w w' := by
  cases ha : ascii s with
  | false =>
    have HA := Lib.hid ha
    clear ha
    cases lt with
    | false =>
      have e : flagsH s false = 2048 := by unfold flagsH; rw [HA.out]; rfl
      have HX := Lib.hid e
      clear e
      go_enter Tryd.func23, Tryd.ntmps23
      go_wp2_with fail
      refine (ascii_any s _ hs).mono ?_
      rintro e w1 ⟨rfl, rfl⟩
      rw [HA.out]
      go_wp2
      go_ret
      exact ⟨by rw [HX.out]; rfl, (Below.refl _ _).alloc (Nat.le_refl _) _⟩
    | true =>
      have e : flagsH s true = 2056 := by unfold flagsH; rw [HA.out]; rfl
      have HX := Lib.hid e
      clear e
      go_enter Tryd.func23, Tryd.ntmps23
      go_wp2_with fail
      refine (ascii_any s _ hs).mono ?_
      rintro e w1 ⟨rfl, rfl⟩
      rw [HA.out]
      go_wp2
      go_ret
      exact ⟨by rw [HX.out]; rfl, (Below.refl _ _).alloc (Nat.le_refl _) _⟩
  | true =>
    have HA := Lib.hid ha
    clear ha
    cases lt with
    | false =>
      have e : flagsH s false = 0 := by unfold flagsH; rw [HA.out]; rfl
      have HX := Lib.hid e
      clear e
      go_enter Tryd.func23, Tryd.ntmps23
      go_wp2_with fail
      refine (ascii_any s _ hs).mono ?_
      rintro e w1 ⟨rfl, rfl⟩
      rw [HA.out]
      go_wp2
      go_ret
      exact ⟨by rw [HX.out]; rfl, (Below.refl _ _).alloc (Nat.le_refl _) _⟩
    | true =>
      have e : flagsH s true = 8 := by unfold flagsH; rw [HA.out]; rfl
      have HX := Lib.hid e
      clear e
      go_enter Tryd.func23, Tryd.ntmps23
      go_wp2_with fail
      refine (ascii_any s _ hs).mono ?_
      rintro e w1 ⟨rfl, rfl⟩
      rw [HA.out]
      go_wp2
      go_ret
      exact ⟨by rw [HX.out]; rfl, (Below.refl _ _).alloc (Nat.le_refl _) _⟩

set_option maxRecDepth 100000 in
set_option maxHeartbeats 4000000 in
theorem hcheck_any (s : ByteArray) (y mo d h mi se me : Int) (c : Nat) (p z : Int) (wd lt : Bool) (w : World) (hE : Env w) :
    Calls Tryd.prog 24 #[.agg #[.string s, .int .i64 y, .int .i64 mo, .int .i64 d, .int .i64 h, .int .i64 mi, .int .i64 se, .int .i64 me, .int .u32 (c : Nat), .int .i64 p, .int .i64 z, .bool wd, .bool lt]] w fun e w' => e = .returned (.int .i64 (codeH s (rightB y mo d h mi se) me p z)) ∧ Below w.heap.size w w' := by
  have HE := Lib.hid hE
  clear hE
  go_enter Tryd.func24, Tryd.ntmps24
  go_wp2_with fail
  obtain ⟨w0, hw0⟩ : ∃ w0, w.alloc (.cells #[.string s, .int .i64 y, .int .i64 mo, .int .i64 d, .int .i64 h, .int .i64 mi, .int .i64 se, .int .i64 me, .int .u32 (c : Nat), .int .i64 p, .int .i64 z, .bool wd, .bool lt] 26) = w0 := ⟨_, rfl⟩
  rw [hw0]
  have HW0 : Hid (Below w.heap.size w w0) := Lib.hid (hw0 ▸ (Below.refl _ _).alloc (Nat.le_refl _) _)
  have HR : Hid (Whole w0 w.heap.size 26 #[.string s, .int .i64 y, .int .i64 mo, .int .i64 d, .int .i64 h, .int .i64 mi, .int .i64 se, .int .i64 me, .int .u32 (c : Nat), .int .i64 p, .int .i64 z, .bool wd, .bool lt]) := Lib.hid (hw0 ▸ Whole.new w 26 _ rfl)
  clear hw0
  refine (name_any s w0 (HE.out.below HW0.out)).mono ?_
  rintro e w1 ⟨rfl, hb1⟩
  have HB1 := Lib.hid (HW0.out.trans (hb1.mono HW0.out.size))
  have HR := Lib.hid (HR.out.below' hb1)
  clear hb1
  cases hn : nameOk s with
  | false =>
    have e1 := codeH_name (tr := rightB y mo d h mi se) (me := me) (p := p) (z := z) hn
    have e2 := nameCode_bad hn
    have HX := Lib.hid e1
    clear e1 hn
    rw [e2]
    go_wp2
    go_ret
    exact ⟨by rw [HX.out]; rfl, HB1.out⟩
  | true =>
  have e2 := nameCode_ok hn
  have HNm := Lib.hid hn
  clear hn
  rw [e2]
  have r1 := HR.out.cell 1
  have r2 := HR.out.cell 2
  have r3 := HR.out.cell 3
  have r4 := HR.out.cell 4
  have r5 := HR.out.cell 5
  have r6 := HR.out.cell 6
  simp at r1 r2 r3 r4 r5 r6
  go_wp2_with fail
  refine (dright_any y mo d h mi se w1).mono ?_
  rintro e w2 ⟨rfl, hb2⟩
  have HB2 := Lib.hid (HB1.out.trans (hb2.mono HB1.out.size))
  have HR := Lib.hid (HR.out.below' hb2)
  clear hb2 r1 r2 r3 r4 r5 r6
  cases ht : rightB y mo d h mi se with
  | false =>
    have HX : Hid (codeH s (rightB y mo d h mi se) me p z = 34) := Lib.hid (codeH_time HNm.out ht)
    clear ht
    go_wp2
    go_ret
    exact ⟨by rw [HX.out]; rfl, HB2.out⟩
  | true =>
  have HT := Lib.hid ht
  clear ht
  have r1 := HR.out.cell 7
  have r2 := HR.out.cell 9
  have r3 := HR.out.cell 10
  simp at r1 r2 r3
  by_cases m0 : me = 0
  case pos =>
    subst m0
    by_cases c1 : 0 ≤ z
    case neg =>
      have HX : Hid (codeH s (rightB y mo d h mi se) 0 p z = 13) := Lib.hid (codeH_size HNm.out HT.out (by rfl) (by unfold sizeOk; rw [decide_eq_false c1]; rfl))
      go_wp2
      go_ret
      exact ⟨by rw [HX.out]; rfl, HB2.out⟩
    by_cases c2 : z ≤ 16777216
    case neg =>
      have HX : Hid (codeH s (rightB y mo d h mi se) 0 p z = 13) := Lib.hid (codeH_size HNm.out HT.out (by rfl) (by unfold sizeOk; rw [decide_eq_false c2]; simp))
      go_wp2
      go_ret
      exact ⟨by rw [HX.out]; rfl, HB2.out⟩
    by_cases c3 : 0 ≤ p
    case neg =>
      have HX : Hid (codeH s (rightB y mo d h mi se) 0 p z = 13) := Lib.hid (codeH_size HNm.out HT.out (by rfl) (by unfold sizeOk; rw [decide_eq_false c3]; simp))
      go_wp2
      go_ret
      exact ⟨by rw [HX.out]; rfl, HB2.out⟩
    by_cases c4 : p ≤ 33554432
    case neg =>
      have HX : Hid (codeH s (rightB y mo d h mi se) 0 p z = 13) := Lib.hid (codeH_size HNm.out HT.out (by rfl) (by unfold sizeOk; rw [decide_eq_false c4]; simp))
      go_wp2
      go_ret
      exact ⟨by rw [HX.out]; rfl, HB2.out⟩
    by_cases c5 : p = z
    case neg =>
      have HX : Hid (codeH s (rightB y mo d h mi se) 0 p z = 13) := Lib.hid (codeH_size HNm.out HT.out (by rfl) (by unfold sizeOk; simp [c5]))
      have d5 : (p != z) = true := by simpa using c5
      go_wp2
      go_ret
      exact ⟨by rw [HX.out]; rfl, HB2.out⟩
    have HX : Hid (codeH s (rightB y mo d h mi se) 0 p z = 0) := Lib.hid (codeH_ok HNm.out HT.out (by rfl) (by unfold sizeOk; simp [c1, c2, c5] <;> omega))
    have d5 : (p != z) = false := by simpa using c5
    clear c5
    go_wp2
    go_ret
    exact ⟨by rw [HX.out]; rfl, HB2.out⟩
  by_cases m8 : me = 8
  case pos =>
    subst m8
    clear m0
    by_cases c1 : 0 ≤ z
    case neg =>
      have HX : Hid (codeH s (rightB y mo d h mi se) 8 p z = 13) := Lib.hid (codeH_size HNm.out HT.out (by rfl) (by unfold sizeOk; rw [decide_eq_false c1]; rfl))
      go_wp2
      go_ret
      exact ⟨by rw [HX.out]; rfl, HB2.out⟩
    by_cases c2 : z ≤ 16777216
    case neg =>
      have HX : Hid (codeH s (rightB y mo d h mi se) 8 p z = 13) := Lib.hid (codeH_size HNm.out HT.out (by rfl) (by unfold sizeOk; rw [decide_eq_false c2]; simp))
      go_wp2
      go_ret
      exact ⟨by rw [HX.out]; rfl, HB2.out⟩
    by_cases c3 : 0 ≤ p
    case neg =>
      have HX : Hid (codeH s (rightB y mo d h mi se) 8 p z = 13) := Lib.hid (codeH_size HNm.out HT.out (by rfl) (by unfold sizeOk; rw [decide_eq_false c3]; simp))
      go_wp2
      go_ret
      exact ⟨by rw [HX.out]; rfl, HB2.out⟩
    by_cases c4 : p ≤ 33554432
    case neg =>
      have HX : Hid (codeH s (rightB y mo d h mi se) 8 p z = 13) := Lib.hid (codeH_size HNm.out HT.out (by rfl) (by unfold sizeOk; rw [decide_eq_false c4]; simp))
      go_wp2
      go_ret
      exact ⟨by rw [HX.out]; rfl, HB2.out⟩
    have HX : Hid (codeH s (rightB y mo d h mi se) 8 p z = 0) := Lib.hid (codeH_ok HNm.out HT.out (by rfl) (by unfold sizeOk; simp [c1, c2, c3, c4]))
    go_wp2
    go_ret
    exact ⟨by rw [HX.out]; rfl, HB2.out⟩
  have HX : Hid (codeH s (rightB y mo d h mi se) me p z = 33) := Lib.hid (codeH_method HNm.out HT.out (by simp [m0, m8]))
  have d1 : (me != 0) = true := by simpa using m0
  have d2 : (me != 8) = true := by simpa using m8
  clear m0 m8
  go_wp2
  go_ret
  exact ⟨by rw [HX.out]; rfl, HB2.out⟩
end Go.Proofs.YtdmglpnieiiigaaDoor
