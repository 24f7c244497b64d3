/- Whether there may be an entry. -/
import Derived.Test.YtdmglpnieiiigaaDoorT1
import Derived.Test.YtdmglpnieiiigaaDoorC0
namespace Go.Proofs.YtdmglpnieiiigaaDoor
open Go.RowKit

def codeC (s : ByteArray) (tr : Bool) (me p z pl : Int) : Int := if codeH s tr me p z = 0 then (if pl < 0 ∨ 4294967295 ≤ pl then 13 else 0) else codeH s tr me p z
set_option maxRecDepth 100000 in
set_option maxHeartbeats 4000000 in
theorem ccheck_any (s : ByteArray) (y mo d h mi se me : Int) (c : Nat) (p z : Int) (wd lt : Bool) (pl : Int) (w : World) (hE : Env w) :
    Calls Tryd.prog 10 #[.agg #[.string s, .int .i64 y, .int .i64 mo, .int .i64 d, .int .i64 h, .int .i64 mi, .int .i64 se, .int .i64 me, .int .u32 (c : Nat), .int .i64 p, .int .i64 z, .bool wd, .bool lt, .int .i64 pl]] w fun e w' => e = .returned (.int .i64 (codeC s (rightB y mo d h mi se) me p z pl)) ∧ Below w.heap.size w w' := by
  have HC : Hid (∀ w, Env w → Calls Tryd.prog 24 #[.agg #[.string s, .int .i64 y, .int .i64 mo, .int .i64 d, .int .i64 h, .int .i64 mi, .int .i64 se, .int .i64 me, .int .u32 (c : Nat), .int .i64 p, .int .i64 z, .bool wd, .bool lt]] w fun e w' => e = .returned (.int .i64 (codeH s (rightB y mo d h mi se) me p z)) ∧ Below w.heap.size w w') := Lib.hid (fun w hE => hcheck_any s y mo d h mi se me c p z wd lt w hE)
  have HE := Lib.hid hE
  clear hE
  obtain ⟨K, hK⟩ : ∃ K, codeH s (rightB y mo d h mi se) me p z = K := ⟨_, rfl⟩
  rw [hK] at HC
  by_cases h0 : K = 0
  case neg =>
    have HX : Hid (codeC s (rightB y mo d h mi se) me p z pl = K) := Lib.hid (by unfold codeC; rw [hK, if_neg h0])
    have d0 : (K == 0) = false := by simpa using h0
    clear h0 hK
    go_enter Tryd.func10, Tryd.ntmps10
    go_wp2_with fail
    obtain ⟨w0, hw0⟩ : ∃ w0, w.alloc (.cells #[.string s, .int .i64 y, .int .i64 mo, .int .i64 d, .int .i64 h, .int .i64 mi, .int .i64 se, .int .i64 me, .int .u32 (c : Nat), .int .i64 p, .int .i64 z, .bool wd, .bool lt, .int .i64 pl] 28) = w0 := ⟨_, rfl⟩
    rw [hw0]
    have HW0 : Hid (Below w.heap.size w w0) := Lib.hid (hw0 ▸ (Below.refl _ _).alloc (Nat.le_refl _) _)
    have HR : Hid (Whole w0 w.heap.size 28 #[.string s, .int .i64 y, .int .i64 mo, .int .i64 d, .int .i64 h, .int .i64 mi, .int .i64 se, .int .i64 me, .int .u32 (c : Nat), .int .i64 p, .int .i64 z, .bool wd, .bool lt, .int .i64 pl]) := Lib.hid (hw0 ▸ Whole.new w 28 _ rfl)
    clear hw0
    refine (HC.out w0 (HE.out.below HW0.out)).mono ?_
    rintro e w1 ⟨rfl, hb1⟩
    have HB1 := Lib.hid (HW0.out.trans (hb1.mono HW0.out.size))
    have HR := Lib.hid (HR.out.below' hb1)
    clear hb1 HC
    have r13 := HR.out.cell 13
    simp at r13
    go_wp2
    all_goals first
      | (rename_i hx; exfalso; revert hx; simp; done)
      | (go_ret; exact ⟨by first | rfl | (rw [HX.out]; rfl) | rw [HX.out], HB1.out⟩)
  subst h0
  by_cases h1 : pl < 0
  · have HX : Hid (codeC s (rightB y mo d h mi se) me p z pl = 13) := Lib.hid (by unfold codeC; rw [hK, if_pos rfl, if_pos (.inl h1)])
    have d1 : decide (pl < 0) = true := decide_eq_true h1
    clear hK
    go_enter Tryd.func10, Tryd.ntmps10
    go_wp2_with fail
    obtain ⟨w0, hw0⟩ : ∃ w0, w.alloc (.cells #[.string s, .int .i64 y, .int .i64 mo, .int .i64 d, .int .i64 h, .int .i64 mi, .int .i64 se, .int .i64 me, .int .u32 (c : Nat), .int .i64 p, .int .i64 z, .bool wd, .bool lt, .int .i64 pl] 28) = w0 := ⟨_, rfl⟩
    rw [hw0]
    have HW0 : Hid (Below w.heap.size w w0) := Lib.hid (hw0 ▸ (Below.refl _ _).alloc (Nat.le_refl _) _)
    have HR : Hid (Whole w0 w.heap.size 28 #[.string s, .int .i64 y, .int .i64 mo, .int .i64 d, .int .i64 h, .int .i64 mi, .int .i64 se, .int .i64 me, .int .u32 (c : Nat), .int .i64 p, .int .i64 z, .bool wd, .bool lt, .int .i64 pl]) := Lib.hid (hw0 ▸ Whole.new w 28 _ rfl)
    clear hw0
    refine (HC.out w0 (HE.out.below HW0.out)).mono ?_
    rintro e w1 ⟨rfl, hb1⟩
    have HB1 := Lib.hid (HW0.out.trans (hb1.mono HW0.out.size))
    have HR := Lib.hid (HR.out.below' hb1)
    clear hb1 HC
    have r13 := HR.out.cell 13
    simp at r13
    go_wp2
    go_ret
    exact ⟨by first | rfl | (rw [HX.out]; rfl) | rw [HX.out], HB1.out⟩
  by_cases h2 : 4294967295 ≤ pl
  · have HX : Hid (codeC s (rightB y mo d h mi se) me p z pl = 13) := Lib.hid (by unfold codeC; rw [hK, if_pos rfl, if_pos (.inr h2)])
    have d1 : decide (pl < 0) = false := decide_eq_false h1
    have d2 : decide (4294967295 ≤ pl) = true := decide_eq_true h2
    clear hK
    go_enter Tryd.func10, Tryd.ntmps10
    go_wp2_with fail
    obtain ⟨w0, hw0⟩ : ∃ w0, w.alloc (.cells #[.string s, .int .i64 y, .int .i64 mo, .int .i64 d, .int .i64 h, .int .i64 mi, .int .i64 se, .int .i64 me, .int .u32 (c : Nat), .int .i64 p, .int .i64 z, .bool wd, .bool lt, .int .i64 pl] 28) = w0 := ⟨_, rfl⟩
    rw [hw0]
    have HW0 : Hid (Below w.heap.size w w0) := Lib.hid (hw0 ▸ (Below.refl _ _).alloc (Nat.le_refl _) _)
    have HR : Hid (Whole w0 w.heap.size 28 #[.string s, .int .i64 y, .int .i64 mo, .int .i64 d, .int .i64 h, .int .i64 mi, .int .i64 se, .int .i64 me, .int .u32 (c : Nat), .int .i64 p, .int .i64 z, .bool wd, .bool lt, .int .i64 pl]) := Lib.hid (hw0 ▸ Whole.new w 28 _ rfl)
    clear hw0
    refine (HC.out w0 (HE.out.below HW0.out)).mono ?_
    rintro e w1 ⟨rfl, hb1⟩
    have HB1 := Lib.hid (HW0.out.trans (hb1.mono HW0.out.size))
    have HR := Lib.hid (HR.out.below' hb1)
    clear hb1 HC
    have r13 := HR.out.cell 13
    simp at r13
    go_wp2
    go_ret
    exact ⟨by first | rfl | (rw [HX.out]; rfl) | rw [HX.out], HB1.out⟩
  have HX : Hid (codeC s (rightB y mo d h mi se) me p z pl = 0) := Lib.hid (by unfold codeC; rw [hK, if_pos rfl, if_neg (by omega)])
  have d1 : decide (pl < 0) = false := decide_eq_false h1
  have d2 : decide (4294967295 ≤ pl) = false := decide_eq_false h2
  clear hK
  go_enter Tryd.func10, Tryd.ntmps10
  go_wp2_with fail
  obtain ⟨w0, hw0⟩ : ∃ w0, w.alloc (.cells #[.string s, .int .i64 y, .int .i64 mo, .int .i64 d, .int .i64 h, .int .i64 mi, .int .i64 se, .int .i64 me, .int .u32 (c : Nat), .int .i64 p, .int .i64 z, .bool wd, .bool lt, .int .i64 pl] 28) = w0 := ⟨_, rfl⟩
  rw [hw0]
  have HW0 : Hid (Below w.heap.size w w0) := Lib.hid (hw0 ▸ (Below.refl _ _).alloc (Nat.le_refl _) _)
  have HR : Hid (Whole w0 w.heap.size 28 #[.string s, .int .i64 y, .int .i64 mo, .int .i64 d, .int .i64 h, .int .i64 mi, .int .i64 se, .int .i64 me, .int .u32 (c : Nat), .int .i64 p, .int .i64 z, .bool wd, .bool lt, .int .i64 pl]) := Lib.hid (hw0 ▸ Whole.new w 28 _ rfl)
  clear hw0
  refine (HC.out w0 (HE.out.below HW0.out)).mono ?_
  rintro e w1 ⟨rfl, hb1⟩
  have HB1 := Lib.hid (HW0.out.trans (hb1.mono HW0.out.size))
  have HR := Lib.hid (HR.out.below' hb1)
  clear hb1 HC
  have r13 := HR.out.cell 13
  simp at r13
  go_wp2
  go_ret
  exact ⟨by first | rfl | (rw [HX.out]; rfl) | rw [HX.out], HB1.out⟩
set_option maxRecDepth 100000 in
set_option maxHeartbeats 4000000 in
theorem rccheck_any (s : ByteArray) (y mo d h mi se me : Int) (c : Nat) (p z : Int) (wd lt : Bool) (pl : Int) (w : World) :
    Calls Tryd.prog 8 #[.agg #[.string s, .int .i64 y, .int .i64 mo, .int .i64 d, .int .i64 h, .int .i64 mi, .int .i64 se, .int .i64 me, .int .u32 (c : Nat), .int .i64 p, .int .i64 z, .bool wd, .bool lt], .int .i64 pl] w fun e w' => e = .returned (.int .i64 (codeC s (rightB y mo d h mi se) me p z pl)) ∧ Below w.heap.size w w' := by
  have HC : Hid (∀ w, Calls Tryd.prog 19 #[.agg #[.string s, .int .i64 y, .int .i64 mo, .int .i64 d, .int .i64 h, .int .i64 mi, .int .i64 se, .int .i64 me, .int .u32 (c : Nat), .int .i64 p, .int .i64 z, .bool wd, .bool lt]] w fun e w' => e = .returned (.int .i64 (codeH s (rightB y mo d h mi se) me p z)) ∧ Below w.heap.size w w') := Lib.hid (fun w => rcheck_any s y mo d h mi se me c p z wd lt w)
  obtain ⟨K, hK⟩ : ∃ K, codeH s (rightB y mo d h mi se) me p z = K := ⟨_, rfl⟩
  rw [hK] at HC
  by_cases h0 : K = 0
  case neg =>
    have HX : Hid (codeC s (rightB y mo d h mi se) me p z pl = K) := Lib.hid (by unfold codeC; rw [hK, if_neg h0])
    have d0 : (K == 0) = false := by simpa using h0
    clear h0 hK
    go_enter Tryd.func8, Tryd.ntmps8
    go_wp2_with fail
    obtain ⟨w0, hw0⟩ : ∃ w0, w.alloc (.cells #[.string s, .int .i64 y, .int .i64 mo, .int .i64 d, .int .i64 h, .int .i64 mi, .int .i64 se, .int .i64 me, .int .u32 (c : Nat), .int .i64 p, .int .i64 z, .bool wd, .bool lt] 30) = w0 := ⟨_, rfl⟩
    rw [hw0]
    have HW0 : Hid (Below w.heap.size w w0) := Lib.hid (hw0 ▸ (Below.refl _ _).alloc (Nat.le_refl _) _)
    have HR : Hid (Whole w0 w.heap.size 30 #[.string s, .int .i64 y, .int .i64 mo, .int .i64 d, .int .i64 h, .int .i64 mi, .int .i64 se, .int .i64 me, .int .u32 (c : Nat), .int .i64 p, .int .i64 z, .bool wd, .bool lt]) := Lib.hid (hw0 ▸ Whole.new w 30 _ rfl)
    clear hw0
    refine (HC.out w0).mono ?_
    rintro e w1 ⟨rfl, hb1⟩
    have HB1 := Lib.hid (HW0.out.trans (hb1.mono HW0.out.size))
    have HR := Lib.hid (HR.out.below' hb1)
    clear hb1 HC
    go_wp2
    all_goals first
      | (rename_i hx; exfalso; revert hx; simp; done)
      | (go_ret; exact ⟨by first | rfl | (rw [HX.out]; rfl) | rw [HX.out], HB1.out⟩)
  subst h0
  by_cases h1 : pl < 0
  · have HX : Hid (codeC s (rightB y mo d h mi se) me p z pl = 13) := Lib.hid (by unfold codeC; rw [hK, if_pos rfl, if_pos (.inl h1)])
    have d1 : decide (pl < 0) = true := decide_eq_true h1
    clear hK
    go_enter Tryd.func8, Tryd.ntmps8
    go_wp2_with fail
    obtain ⟨w0, hw0⟩ : ∃ w0, w.alloc (.cells #[.string s, .int .i64 y, .int .i64 mo, .int .i64 d, .int .i64 h, .int .i64 mi, .int .i64 se, .int .i64 me, .int .u32 (c : Nat), .int .i64 p, .int .i64 z, .bool wd, .bool lt] 30) = w0 := ⟨_, rfl⟩
    rw [hw0]
    have HW0 : Hid (Below w.heap.size w w0) := Lib.hid (hw0 ▸ (Below.refl _ _).alloc (Nat.le_refl _) _)
    have HR : Hid (Whole w0 w.heap.size 30 #[.string s, .int .i64 y, .int .i64 mo, .int .i64 d, .int .i64 h, .int .i64 mi, .int .i64 se, .int .i64 me, .int .u32 (c : Nat), .int .i64 p, .int .i64 z, .bool wd, .bool lt]) := Lib.hid (hw0 ▸ Whole.new w 30 _ rfl)
    clear hw0
    refine (HC.out w0).mono ?_
    rintro e w1 ⟨rfl, hb1⟩
    have HB1 := Lib.hid (HW0.out.trans (hb1.mono HW0.out.size))
    have HR := Lib.hid (HR.out.below' hb1)
    clear hb1 HC
    go_wp2
    go_ret
    exact ⟨by first | rfl | (rw [HX.out]; rfl) | rw [HX.out], HB1.out⟩
  by_cases h2 : 4294967295 ≤ pl
  · have HX : Hid (codeC s (rightB y mo d h mi se) me p z pl = 13) := Lib.hid (by unfold codeC; rw [hK, if_pos rfl, if_pos (.inr h2)])
    have d1 : decide (pl < 0) = false := decide_eq_false h1
    have d2 : decide (4294967295 ≤ pl) = true := decide_eq_true h2
    clear hK
    go_enter Tryd.func8, Tryd.ntmps8
    go_wp2_with fail
    obtain ⟨w0, hw0⟩ : ∃ w0, w.alloc (.cells #[.string s, .int .i64 y, .int .i64 mo, .int .i64 d, .int .i64 h, .int .i64 mi, .int .i64 se, .int .i64 me, .int .u32 (c : Nat), .int .i64 p, .int .i64 z, .bool wd, .bool lt] 30) = w0 := ⟨_, rfl⟩
    rw [hw0]
    have HW0 : Hid (Below w.heap.size w w0) := Lib.hid (hw0 ▸ (Below.refl _ _).alloc (Nat.le_refl _) _)
    have HR : Hid (Whole w0 w.heap.size 30 #[.string s, .int .i64 y, .int .i64 mo, .int .i64 d, .int .i64 h, .int .i64 mi, .int .i64 se, .int .i64 me, .int .u32 (c : Nat), .int .i64 p, .int .i64 z, .bool wd, .bool lt]) := Lib.hid (hw0 ▸ Whole.new w 30 _ rfl)
    clear hw0
    refine (HC.out w0).mono ?_
    rintro e w1 ⟨rfl, hb1⟩
    have HB1 := Lib.hid (HW0.out.trans (hb1.mono HW0.out.size))
    have HR := Lib.hid (HR.out.below' hb1)
    clear hb1 HC
    go_wp2
    go_ret
    exact ⟨by first | rfl | (rw [HX.out]; rfl) | rw [HX.out], HB1.out⟩
  have HX : Hid (codeC s (rightB y mo d h mi se) me p z pl = 0) := Lib.hid (by unfold codeC; rw [hK, if_pos rfl, if_neg (by omega)])
  have d1 : decide (pl < 0) = false := decide_eq_false h1
  have d2 : decide (4294967295 ≤ pl) = false := decide_eq_false h2
  clear hK
  go_enter Tryd.func8, Tryd.ntmps8
  go_wp2_with fail
  obtain ⟨w0, hw0⟩ : ∃ w0, w.alloc (.cells #[.string s, .int .i64 y, .int .i64 mo, .int .i64 d, .int .i64 h, .int .i64 mi, .int .i64 se, .int .i64 me, .int .u32 (c : Nat), .int .i64 p, .int .i64 z, .bool wd, .bool lt] 30) = w0 := ⟨_, rfl⟩
  rw [hw0]
  have HW0 : Hid (Below w.heap.size w w0) := Lib.hid (hw0 ▸ (Below.refl _ _).alloc (Nat.le_refl _) _)
  have HR : Hid (Whole w0 w.heap.size 30 #[.string s, .int .i64 y, .int .i64 mo, .int .i64 d, .int .i64 h, .int .i64 mi, .int .i64 se, .int .i64 me, .int .u32 (c : Nat), .int .i64 p, .int .i64 z, .bool wd, .bool lt]) := Lib.hid (hw0 ▸ Whole.new w 30 _ rfl)
  clear hw0
  refine (HC.out w0).mono ?_
  rintro e w1 ⟨rfl, hb1⟩
  have HB1 := Lib.hid (HW0.out.trans (hb1.mono HW0.out.size))
  have HR := Lib.hid (HR.out.below' hb1)
  clear hb1 HC
  go_wp2
  go_ret
  exact ⟨by first | rfl | (rw [HX.out]; rfl) | rw [HX.out], HB1.out⟩
theorem codeC_zero {s : ByteArray} {tr : Bool} {me p z pl : Int} (h : codeC s tr me p z pl = 0) : codeH s tr me p z = 0 ∧ 0 ≤ pl ∧ pl < 4294967295 := by
  unfold codeC at h
  split at h
  · rename_i h1
    split at h
    · cases h
    · exact ⟨h1, by omega, by omega⟩
  · rename_i h1; exact absurd h h1
end Go.Proofs.YtdmglpnieiiigaaDoor
