/- A header as the page's. -/
import Derived.Test.YtdmglpnieiiigaaDoorS3
import Derived.Test.YtdmglpnieiiigaaDoorP4
import Derived.Test.YtdmglpnieiiigaaDoorH2
namespace Go.Proofs.YtdmglpnieiiigaaDoor
open Go.RowKit

theorem rversion_any (s : ByteArray) (y mo d h mi se me : Int) (c : Nat) (p z : Int) (wd lt : Bool) (w : World) :
    Calls Tryd.prog 27 #[.agg #[.string s, .int .i64 y, .int .i64 mo, .int .i64 d, .int .i64 h, .int .i64 mi, .int .i64 se, .int .i64 me, .int .u32 (c : Nat), .int .i64 p, .int .i64 z, .bool wd, .bool lt]] w fun e w' => e = .returned (.int .i64 (if wd = true then 45 else 20)) ∧ Below w.heap.size w w' := by
  cases wd
  · go_enter Tryd.func27, Tryd.ntmps27
    go_wp2
    go_ret
    exact ⟨rfl, (Below.refl _ _).alloc (Nat.le_refl _) _⟩
  · go_enter Tryd.func27, Tryd.ntmps27
    go_wp2
    go_ret
    exact ⟨rfl, (Below.refl _ _).alloc (Nat.le_refl _) _⟩
set_option maxRecDepth 100000 in
set_option maxHeartbeats 4000000 in
theorem rflags_any (s : ByteArray) (y mo d h mi se me : Int) (c : Nat) (p z : Int) (wd lt : Bool) (w : World) (hs : s.size < 9223372036854775807) :
    Calls Tryd.prog 28 #[.agg #[.string s, .int .i64 y, .int .i64 mo, .int .i64 d, .int .i64 h, .int .i64 mi, .int .i64 se, .int .i64 me, .int .u32 (c : Nat), .int .i64 p, .int .i64 z, .bool wd, .bool lt]] w fun e w' => e = .returned (.int .i64 (flagsH s lt)) ∧ Below w.heap.size w w' := by
  cases lt with
  | false =>
    obtain ⟨w0, hw0⟩ : ∃ w0, w.alloc (.cells #[.string s, .int .i64 y, .int .i64 mo, .int .i64 d, .int .i64 h, .int .i64 mi, .int .i64 se, .int .i64 me, .int .u32 (c : Nat), .int .i64 p, .int .i64 z, .bool wd, .bool false] 30) = w0 := ⟨_, rfl⟩
    have HW0 : Hid (Below w.heap.size w w0) := Lib.hid (hw0 ▸ (Below.refl _ _).alloc (Nat.le_refl _) _)
    have HR : Hid (Whole w0 w.heap.size 30 #[.string s, .int .i64 y, .int .i64 mo, .int .i64 d, .int .i64 h, .int .i64 mi, .int .i64 se, .int .i64 me, .int .u32 (c : Nat), .int .i64 p, .int .i64 z, .bool wd, .bool false]) := Lib.hid (hw0 ▸ Whole.new w 30 _ rfl)
    have q0 := HR.out.cell 0
    have q12 := HR.out.cell 12
    simp at q0 q12
    have HX : Hid (flagsH s false = 0 + (if ascii s = true then 0 else 2048)) := Lib.hid rfl
    go_enter Tryd.func28, Tryd.ntmps28
    go_wp2
    clear hw0
    go_loop [4] (fun i => ∃ k : Nat, k ≤ s.size ∧ i = .int .i64 k ∧ (s.data.toList.take k).all (fun b => decide (b.toNat ≤ 126)) = true) (fun i => s.size - (intOf i).toNat)
    case atStart => exact ⟨0, Nat.zero_le _, rfl, by simp⟩
    case round =>
      obtain ⟨k, hk, rfl, hq⟩ := hrel
      have HQ := Lib.hid hq
      clear hq
      by_cases hlt : k < s.size
      · have h1 : (0 : Int) ≤ (k : Int) := by omega
        have h2 : (k : Int) < (s.size : Int) := by omega
        have h3 : ((k : Int)).toNat = k := by omega
        obtain ⟨b, hb⟩ : ∃ b, s[k]'hlt = b := ⟨_, rfl⟩
        have HB := Lib.hid hb
        by_cases hc : b.toNat ≤ 126
        · have d1 : decide ((126 : Int) < ((b.toNat : Nat) : Int)) = false := decide_eq_false (by omega)
          have d1' : decide (126 < b.toNat) = false := decide_eq_false (by omega)
          go_wp2
          refine ⟨⟨k + 1, by omega, by simp, ?_⟩, by simp only [intOf]; omega⟩
          rw [take_all _ s k hlt, HQ.out, HB.out]
          simpa using hc
        · have d1 : decide ((126 : Int) < ((b.toNat : Nat) : Int)) = true := decide_eq_true (by omega)
          have d1' : decide (126 < b.toNat) = true := decide_eq_true (by omega)
          have e : ascii s = false := all_not _ s k hlt (by rw [HB.out]; simpa using hc)
          have HE : Hid (flagsH s false = 0 + 2048) := Lib.hid (by rw [HX.out, e]; rfl)
          clear e
          go_wp2
          go_ret
          exact ⟨by rw [HE.out]; rfl, HW0.out⟩
      · have h2 : ¬ (k : Int) < (s.size : Int) := by omega
        have e : ascii s = true := by
          have hk' : k = s.size := by omega
          unfold ascii
          rw [← all_full, ← hk']; exact HQ.out
        have HE : Hid (flagsH s false = 0) := Lib.hid (by rw [HX.out, e]; rfl)
        clear e
        go_wp2
        go_ret
        exact ⟨by rw [HE.out]; rfl, HW0.out⟩
  | true =>
    obtain ⟨w0, hw0⟩ : ∃ w0, w.alloc (.cells #[.string s, .int .i64 y, .int .i64 mo, .int .i64 d, .int .i64 h, .int .i64 mi, .int .i64 se, .int .i64 me, .int .u32 (c : Nat), .int .i64 p, .int .i64 z, .bool wd, .bool true] 30) = w0 := ⟨_, rfl⟩
    have HW0 : Hid (Below w.heap.size w w0) := Lib.hid (hw0 ▸ (Below.refl _ _).alloc (Nat.le_refl _) _)
    have HR : Hid (Whole w0 w.heap.size 30 #[.string s, .int .i64 y, .int .i64 mo, .int .i64 d, .int .i64 h, .int .i64 mi, .int .i64 se, .int .i64 me, .int .u32 (c : Nat), .int .i64 p, .int .i64 z, .bool wd, .bool true]) := Lib.hid (hw0 ▸ Whole.new w 30 _ rfl)
    have q0 := HR.out.cell 0
    have q12 := HR.out.cell 12
    simp at q0 q12
    have HX : Hid (flagsH s true = 8 + (if ascii s = true then 0 else 2048)) := Lib.hid rfl
    go_enter Tryd.func28, Tryd.ntmps28
    go_wp2
    clear hw0
    go_loop [4] (fun i => ∃ k : Nat, k ≤ s.size ∧ i = .int .i64 k ∧ (s.data.toList.take k).all (fun b => decide (b.toNat ≤ 126)) = true) (fun i => s.size - (intOf i).toNat)
    case atStart => exact ⟨0, Nat.zero_le _, rfl, by simp⟩
    case round =>
      obtain ⟨k, hk, rfl, hq⟩ := hrel
      have HQ := Lib.hid hq
      clear hq
      by_cases hlt : k < s.size
      · have h1 : (0 : Int) ≤ (k : Int) := by omega
        have h2 : (k : Int) < (s.size : Int) := by omega
        have h3 : ((k : Int)).toNat = k := by omega
        obtain ⟨b, hb⟩ : ∃ b, s[k]'hlt = b := ⟨_, rfl⟩
        have HB := Lib.hid hb
        by_cases hc : b.toNat ≤ 126
        · have d1 : decide ((126 : Int) < ((b.toNat : Nat) : Int)) = false := decide_eq_false (by omega)
          have d1' : decide (126 < b.toNat) = false := decide_eq_false (by omega)
          go_wp2
          refine ⟨⟨k + 1, by omega, by simp, ?_⟩, by simp only [intOf]; omega⟩
          rw [take_all _ s k hlt, HQ.out, HB.out]
          simpa using hc
        · have d1 : decide ((126 : Int) < ((b.toNat : Nat) : Int)) = true := decide_eq_true (by omega)
          have d1' : decide (126 < b.toNat) = true := decide_eq_true (by omega)
          have e : ascii s = false := all_not _ s k hlt (by rw [HB.out]; simpa using hc)
          have HE : Hid (flagsH s true = 8 + 2048) := Lib.hid (by rw [HX.out, e]; rfl)
          clear e
          go_wp2
          go_ret
          exact ⟨by rw [HE.out]; rfl, HW0.out⟩
      · have h2 : ¬ (k : Int) < (s.size : Int) := by omega
        have e : ascii s = true := by
          have hk' : k = s.size := by omega
          unfold ascii
          rw [← all_full, ← hk']; exact HQ.out
        have HE : Hid (flagsH s true = 8) := Lib.hid (by rw [HX.out, e]; rfl)
        clear e
        go_wp2
        go_ret
        exact ⟨by rw [HE.out]; rfl, HW0.out⟩
set_option maxRecDepth 100000 in
set_option maxHeartbeats 4000000 in
theorem rcheck_any (s : ByteArray) (y mo d h mi se me : Int) (c : Nat) (p z : Int) (wd lt : Bool) (w : World) :
    Calls Tryd.prog 19 #[.agg #[.string s, .int .i64 y, .int .i64 mo, .int .i64 d, .int .i64 h, .int .i64 mi, .int .i64 se, .int .i64 me, .int .u32 (c : Nat), .int .i64 p, .int .i64 z, .bool wd, .bool lt]] w fun e w' => e = .returned (.int .i64 (codeH s (rightB y mo d h mi se) me p z)) ∧ Below w.heap.size w w' := by
  go_enter Tryd.func19, Tryd.ntmps19
  go_wp2_with fail
  obtain ⟨w0, hw0⟩ : ∃ w0, w.alloc (.cells #[.string s, .int .i64 y, .int .i64 mo, .int .i64 d, .int .i64 h, .int .i64 mi, .int .i64 se, .int .i64 me, .int .u32 (c : Nat), .int .i64 p, .int .i64 z, .bool wd, .bool lt] 30) = w0 := ⟨_, rfl⟩
  rw [hw0]
  have HW0 : Hid (Below w.heap.size w w0) := Lib.hid (hw0 ▸ (Below.refl _ _).alloc (Nat.le_refl _) _)
  have HR : Hid (Whole w0 w.heap.size 30 #[.string s, .int .i64 y, .int .i64 mo, .int .i64 d, .int .i64 h, .int .i64 mi, .int .i64 se, .int .i64 me, .int .u32 (c : Nat), .int .i64 p, .int .i64 z, .bool wd, .bool lt]) := Lib.hid (hw0 ▸ Whole.new w 30 _ rfl)
  clear hw0
  refine (refcheck_any s w0).mono ?_
  rintro e w1 ⟨rfl, hb1⟩
  have HB1 := Lib.hid (HW0.out.trans (hb1.mono HW0.out.size))
  have HR := Lib.hid (HR.out.below' hb1)
  clear hb1
  cases hn : nameOk s with
  | false =>
    have e1 := codeH_name (tr := rightB y mo d h mi se) (me := me) (p := p) (z := z) hn
    have HX := Lib.hid e1
    clear e1 hn
    go_wp2
    go_ret
    exact ⟨by rw [HX.out]; rfl, HB1.out⟩
  | true =>
  have HNm := Lib.hid hn
  clear hn
  have r1 := HR.out.cell 1
  have r2 := HR.out.cell 2
  have r3 := HR.out.cell 3
  have r4 := HR.out.cell 4
  have r5 := HR.out.cell 5
  have r6 := HR.out.cell 6
  simp at r1 r2 r3 r4 r5 r6
  go_wp2_with fail
  refine (rright_any y mo d h mi se w1).mono ?_
  rintro e w2 ⟨rfl, hb2⟩
  have HB2 := Lib.hid (HB1.out.trans (hb2.mono HB1.out.size))
  have HR := Lib.hid (HR.out.below' hb2)
  clear hb2 r1 r2 r3 r4 r5 r6
  cases ht : rightB y mo d h mi se with
  | false =>
    have HX : Hid (codeH s (rightB y mo d h mi se) me p z = 34) := Lib.hid (codeH_time HNm.out ht)
    clear ht
    go_wp2
    go_ret
    exact ⟨by rw [HX.out]; rfl, HB2.out⟩
  | true =>
  have HT := Lib.hid ht
  clear ht
  have r1 := HR.out.cell 7
  have r2 := HR.out.cell 9
  have r3 := HR.out.cell 10
  simp at r1 r2 r3
  by_cases m0 : me = 0
  case pos =>
    subst m0
    by_cases c1 : 0 ≤ z
    case neg =>
      have HX : Hid (codeH s (rightB y mo d h mi se) 0 p z = 13) := Lib.hid (codeH_size HNm.out HT.out (by rfl) (by unfold sizeOk; rw [decide_eq_false c1]; rfl))
      go_wp2
      go_ret
      exact ⟨by rw [HX.out]; rfl, HB2.out⟩
    by_cases c2 : z ≤ 16777216
    case neg =>
      have HX : Hid (codeH s (rightB y mo d h mi se) 0 p z = 13) := Lib.hid (codeH_size HNm.out HT.out (by rfl) (by unfold sizeOk; rw [decide_eq_false c2]; simp))
      go_wp2
      go_ret
      exact ⟨by rw [HX.out]; rfl, HB2.out⟩
    by_cases c3 : 0 ≤ p
    case neg =>
      have HX : Hid (codeH s (rightB y mo d h mi se) 0 p z = 13) := Lib.hid (codeH_size HNm.out HT.out (by rfl) (by unfold sizeOk; rw [decide_eq_false c3]; simp))
      go_wp2
      go_ret
      exact ⟨by rw [HX.out]; rfl, HB2.out⟩
    by_cases c4 : p ≤ 33554432
    case neg =>
      have HX : Hid (codeH s (rightB y mo d h mi se) 0 p z = 13) := Lib.hid (codeH_size HNm.out HT.out (by rfl) (by unfold sizeOk; rw [decide_eq_false c4]; simp))
      go_wp2
      go_ret
      exact ⟨by rw [HX.out]; rfl, HB2.out⟩
    by_cases c5 : p = z
    case neg =>
      have HX : Hid (codeH s (rightB y mo d h mi se) 0 p z = 13) := Lib.hid (codeH_size HNm.out HT.out (by rfl) (by unfold sizeOk; simp [c5]))
      have d5 : (z != p) = true := by simpa using fun e : z = p => c5 e.symm
      go_wp2
      go_ret
      exact ⟨by rw [HX.out]; rfl, HB2.out⟩
    have HX : Hid (codeH s (rightB y mo d h mi se) 0 p z = 0) := Lib.hid (codeH_ok HNm.out HT.out (by rfl) (by unfold sizeOk; simp [c1, c2, c5] <;> omega))
    have d5 : (z != p) = false := by simpa using c5.symm
    clear c5
    go_wp2
    go_ret
    exact ⟨by rw [HX.out]; rfl, HB2.out⟩
  by_cases m8 : me = 8
  case pos =>
    subst m8
    clear m0
    by_cases c1 : 0 ≤ z
    case neg =>
      have HX : Hid (codeH s (rightB y mo d h mi se) 8 p z = 13) := Lib.hid (codeH_size HNm.out HT.out (by rfl) (by unfold sizeOk; rw [decide_eq_false c1]; rfl))
      go_wp2
      go_ret
      exact ⟨by rw [HX.out]; rfl, HB2.out⟩
    by_cases c2 : z ≤ 16777216
    case neg =>
      have HX : Hid (codeH s (rightB y mo d h mi se) 8 p z = 13) := Lib.hid (codeH_size HNm.out HT.out (by rfl) (by unfold sizeOk; rw [decide_eq_false c2]; simp))
      go_wp2
      go_ret
      exact ⟨by rw [HX.out]; rfl, HB2.out⟩
    by_cases c3 : 0 ≤ p
    case neg =>
      have HX : Hid (codeH s (rightB y mo d h mi se) 8 p z = 13) := Lib.hid (codeH_size HNm.out HT.out (by rfl) (by unfold sizeOk; rw [decide_eq_false c3]; simp))
      go_wp2
      go_ret
      exact ⟨by rw [HX.out]; rfl, HB2.out⟩
    by_cases c4 : p ≤ 33554432
    case neg =>
      have HX : Hid (codeH s (rightB y mo d h mi se) 8 p z = 13) := Lib.hid (codeH_size HNm.out HT.out (by rfl) (by unfold sizeOk; rw [decide_eq_false c4]; simp))
      go_wp2
      go_ret
      exact ⟨by rw [HX.out]; rfl, HB2.out⟩
    have HX : Hid (codeH s (rightB y mo d h mi se) 8 p z = 0) := Lib.hid (codeH_ok HNm.out HT.out (by rfl) (by unfold sizeOk; simp [c1, c2, c3, c4]))
    go_wp2
    go_ret
    exact ⟨by rw [HX.out]; rfl, HB2.out⟩
  have HX : Hid (codeH s (rightB y mo d h mi se) me p z = 33) := Lib.hid (codeH_method HNm.out HT.out (by simp [m0, m8]))
  have d1 : (me != 0) = true := by simpa using m0
  have d2 : (me != 8) = true := by simpa using m8
  clear m0 m8
  go_wp2
  go_ret
  exact ⟨by rw [HX.out]; rfl, HB2.out⟩
end Go.Proofs.YtdmglpnieiiigaaDoor
