/- Encode of what may not be; both Encodes together. -/
import Derived.Test.YtdmglpnieiiigaaDoorK4
import Derived.Test.YtdmglpnieiiigaaDoorK5
namespace Go.Proofs.YtdmglpnieiiigaaDoor
open Go.RowKit

set_option maxRecDepth 100000 in
set_option maxHeartbeats 4000000 in
theorem cencode_bad (s : ByteArray) (y mo d h mi se me : Int) (c : Nat) (p z : Int) (wd lt : Bool) (pl : Int) (w : World) (hE : Env w) (hk : (codeC s (rightB y mo d h mi se) me p z pl == 0) = false) :
    Calls Tryd.prog 9 #[.agg #[.string s, .int .i64 y, .int .i64 mo, .int .i64 d, .int .i64 h, .int .i64 mi, .int .i64 se, .int .i64 me, .int .u32 (c : Nat), .int .i64 p, .int .i64 z, .bool wd, .bool lt, .int .i64 pl]] w fun e w' => e = .returned (.tuple #[.slice none 0 0, .int .i64 (codeC s (rightB y mo d h mi se) me p z pl)]) ∧ Below w.heap.size w w' := by
  have HCk : Hid (∀ w, Env w → Calls Tryd.prog 10 #[.agg #[.string s, .int .i64 y, .int .i64 mo, .int .i64 d, .int .i64 h, .int .i64 mi, .int .i64 se, .int .i64 me, .int .u32 (c : Nat), .int .i64 p, .int .i64 z, .bool wd, .bool lt, .int .i64 pl]] w fun e w' => e = .returned (.int .i64 (codeC s (rightB y mo d h mi se) me p z pl)) ∧ Below w.heap.size w w') := Lib.hid (fun w hE => ccheck_any s y mo d h mi se me c p z wd lt pl w hE)
  obtain ⟨K, hK⟩ : ∃ K, codeC s (rightB y mo d h mi se) me p z pl = K := ⟨_, rfl⟩
  rw [hK] at HCk hk ⊢
  have HE := Lib.hid hE
  clear hE hK
  go_enter Tryd.func9, Tryd.ntmps9
  go_wp2_with fail
  obtain ⟨w0, hw0⟩ : ∃ w0, w.alloc (.cells #[.string s, .int .i64 y, .int .i64 mo, .int .i64 d, .int .i64 h, .int .i64 mi, .int .i64 se, .int .i64 me, .int .u32 (c : Nat), .int .i64 p, .int .i64 z, .bool wd, .bool lt, .int .i64 pl] 28) = w0 := ⟨_, rfl⟩
  rw [hw0]
  have HW0 : Hid (Below w.heap.size w w0) := Lib.hid (hw0 ▸ (Below.refl _ _).alloc (Nat.le_refl _) _)
  clear hw0
  refine (HCk.out w0 (HE.out.below HW0.out)).mono ?_
  rintro e w1 ⟨rfl, hb1⟩
  have HB1 := Lib.hid (HW0.out.trans (hb1.mono HW0.out.size))
  clear hb1 HCk
  go_wp2
  all_goals first
    | (rename_i hx; exfalso; revert hx; simp; done)
    | (simp [bodyPost, results, Tryd.results9, go_sem]; exact HB1.out)
theorem fl_num (k : Nat) (a : Nat) : fl k [a] = leB a k := by unfold fl; simp
theorem fl_nums (k : Nat) (a b : Nat) : fl k [a, b] = leB a k ++ leB b k := by unfold fl; simp
theorem codeH_zero {s : ByteArray} {tr : Bool} {me p z : Int} (h : codeH s tr me p z = 0) : nameOk s = true ∧ tr = true ∧ (me = 0 ∨ me = 8) ∧ 0 ≤ z ∧ z ≤ 16777216 ∧ 0 ≤ p ∧ p ≤ 33554432 := by
  cases h1 : nameOk s with
  | false => rw [codeH_name h1] at h; cases h
  | true =>
    cases h2 : tr with
    | false => rw [codeH_time h1 h2] at h; cases h
    | true =>
      by_cases h3 : (!(me == 0) && !(me == 8)) = true
      · rw [codeH_method h1 h2 h3] at h; cases h
      · have h3' : (!(me == 0) && !(me == 8)) = false := by simpa using h3
        cases h4 : sizeOk me p z with
        | false => rw [codeH_size h1 h2 h3' h4] at h; cases h
        | true =>
          refine ⟨rfl, rfl, ?_, ?_⟩
          · by_cases e0 : me = 0
            · exact .inl e0
            · by_cases e8 : me = 8
              · exact .inr e8
              · exfalso; apply h3; simp [e0, e8]
          · unfold sizeOk at h4
            simp only [Bool.and_eq_true, decide_eq_true_eq] at h4
            omega
theorem nameOk_size {s : ByteArray} (h : nameOk s = true) : s.size ≤ 255 := by
  unfold nameOk at h
  simp only [Bool.and_eq_true, decide_eq_true_eq] at h
  exact h.1.1.1
theorem flagsH_bd (s : ByteArray) (lt : Bool) : 0 ≤ flagsH s lt ∧ flagsH s lt < 65536 := by
  unfold flagsH
  split <;> split <;> omega
/-- what an entry that may be is told as, by both -/
def EncBoth (s : ByteArray) (y mo d h mi se : Int) (me c p z : Nat) (wd lt : Bool) (pl : Nat) (bs : List UInt8) (n : Nat) : Prop :=
  (∀ w, Env w → Calls Tryd.prog 9 #[.agg #[.string s, .int .i64 y, .int .i64 mo, .int .i64 d, .int .i64 h, .int .i64 mi, .int .i64 se, .int .i64 (me : Nat), .int .u32 (c : Nat), .int .i64 (p : Nat), .int .i64 (z : Nat), .bool wd, .bool lt, .int .i64 (pl : Nat)]] w (EncQ n bs w)) ∧ (∀ w, Calls Tryd.prog 11 #[.agg #[.string s, .int .i64 y, .int .i64 mo, .int .i64 d, .int .i64 h, .int .i64 mi, .int .i64 se, .int .i64 (me : Nat), .int .u32 (c : Nat), .int .i64 (p : Nat), .int .i64 (z : Nat), .bool wd, .bool lt], .int .i64 (pl : Nat)] w (RetB n bs w)) ∧ (wd = false → n = 46 + s.size)
theorem enc_both (s : ByteArray) (y mo d h mi se : Int) (me c p z : Nat) (wd lt : Bool) (pl : Nat) (hc : c < 4294967296) (hk : codeC s (rightB y mo d h mi se) me p z pl = 0) : ∃ bs n, EncBoth s y mo d h mi se me c p z wd lt pl bs n := by
  obtain ⟨hk0, hk1, hk2⟩ := codeC_zero hk
  obtain ⟨h1, h2, h3, h4, h5, h6, h7⟩ := codeH_zero hk0
  have hs := nameOk_size h1
  obtain ⟨DT, hD⟩ : ∃ DT : Nat, dateI y mo d = DT := ⟨(dateI y mo d).toNat, by have := dateI_bd (RightT.of h2); omega⟩
  obtain ⟨CK, hC⟩ : ∃ CK : Nat, clockI h mi se = CK := ⟨(clockI h mi se).toNat, by have := clockI_bd (RightT.of h2); omega⟩
  obtain ⟨FL, hF⟩ : ∃ FL : Nat, flagsH s lt = FL := ⟨(flagsH s lt).toNat, by have := flagsH_bd s lt; omega⟩
  have hD2 : DT < 65536 := by have := dateI_bd (RightT.of h2); omega
  have hC2 : CK < 65536 := by have := clockI_bd (RightT.of h2); omega
  have hF2 : FL < 65536 := by have := flagsH_bd s lt; omega
  have hme : me < 65536 := by omega
  cases wd
  · refine ⟨_, _, fun w hE => cencode_slim s y mo d h mi se me c p z pl DT CK FL lt w hE hs hc hk h2 hD hC hF hD2 hC2 hF2 (by omega) (by omega) hme (by omega), fun w => ?_, fun _ => rfl⟩
    have := crenc_slim s y mo d h mi se me c p z pl DT CK FL lt w hs hc h2 hD hC hF hD2 hC2 hF2 (by omega) (by omega) hme (by omega)
    simp only [fl_cat, List.append_assoc] at this ⊢
    exact this
  · refine ⟨_, _, fun w hE => cencode_wide s y mo d h mi se me c p z pl DT CK FL lt w hE hs hc hk h2 hD hC hF hD2 hC2 hF2 (by omega) (by omega) hme (by omega), fun w => ?_, fun h => by cases h⟩
    have := crenc_wide s y mo d h mi se me c p z pl DT CK FL lt w hs hc h2 hD hC hF hD2 hC2 hF2 (by omega) (by omega) hme (by omega)
    simp only [fl_cat, List.append_assoc] at this ⊢
    exact this
set_option maxRecDepth 100000 in
theorem ex_code : codeC ⟨#[97]⟩ (rightB 2000 1 1 0 0 0) 0 0 0 0 = 0 := by decide +kernel
set_option maxRecDepth 100000 in
theorem cawake_any (w : World) (hE : Env w) : Calls Tryd.prog 6 #[] w fun e w' => e = .returned (.bool true) ∧ Below w.heap.size w w' := by
  obtain ⟨bs, n, h1, _, h3⟩ := enc_both ⟨#[97]⟩ 2000 1 1 0 0 0 0 0 0 0 false false 0 (by omega) ex_code
  have hn := h3 rfl
  have hn' : n = 47 := hn
  subst hn'
  have H1 := Lib.hid h1
  have HE := Lib.hid hE
  clear h1 h3 hn hE
  go_enter Tryd.func6, Tryd.ntmps6
  go_wp2_with fail
  refine (H1.out w HE.out).mono ?_
  rintro e w1 ⟨A, c, rfl, hB, hb⟩
  have HB := Lib.hid hb
  clear hB hb
  go_wp2
  go_ret
  exact ⟨rfl, HB.out⟩
end Go.Proofs.YtdmglpnieiiigaaDoor
