/- Sizes of tokens. -/
import Derived.Test.YtmnlghbmioekcaaT6
namespace Go.Proofs.Ytmnlghbmioekcaa
open Go.RowKit

theorem rright_any (t : Tok) (w : World) : Calls Try.prog 10 #[.agg #[.int .u8 (t.1 : Int), .int .i64 t.2.1, .int .i64 t.2.2]] w fun e w' => e = .returned (.bool (okT t)) ∧ Below w.heap.size w w' := by
  obtain ⟨v, l, d⟩ := t
  simp only
  by_cases h0 : l = 0
  · have e0 : (l == 0) = true := by simpa using h0
    have ho : okT (v, l, d) = (d == 0) := by
      unfold okT
      rw [if_pos h0]
      by_cases hd : d = 0 <;> simp [hd]
    rw [ho]
    go_enter Try.func10, Try.ntmps10
    go_wp2
    go_ret
    exact ⟨rfl, (Below.refl _ _).alloc (Nat.le_refl _) _⟩
  · have e0 : (l == 0) = false := by simpa using h0
    by_cases h1 : v = 0
    · have e1 : ((v : Int) == 0) = true := by simp [h1]
      by_cases h2 : 3 ≤ l
      · have e2 : decide (3 ≤ l) = true := by simpa using h2
        by_cases h3 : l ≤ 258
        · have e3 : decide (l ≤ 258) = true := by simpa using h3
          by_cases h4 : 1 ≤ d
          · have e4 : decide (1 ≤ d) = true := by simpa using h4
            have ho : okT (v, l, d) = decide (d ≤ 32768) := by unfold okT; simp [h0, h1, h2, h3, h4]
            rw [ho]
            go_enter Try.func10, Try.ntmps10
            go_wp2
            go_ret
            exact ⟨rfl, (Below.refl _ _).alloc (Nat.le_refl _) _⟩
          · have e4 : decide (1 ≤ d) = false := by simpa using h4
            rw [show okT (v, l, d) = false by unfold okT; simp [h0, h4]]
            go_enter Try.func10, Try.ntmps10
            go_wp2
            go_ret
            exact ⟨rfl, (Below.refl _ _).alloc (Nat.le_refl _) _⟩
        · have e3 : decide (l ≤ 258) = false := by simpa using h3
          rw [show okT (v, l, d) = false by unfold okT; simp [h0, h3]]
          go_enter Try.func10, Try.ntmps10
          go_wp2
          go_ret
          exact ⟨rfl, (Below.refl _ _).alloc (Nat.le_refl _) _⟩
      · have e2 : decide (3 ≤ l) = false := by simpa using h2
        rw [show okT (v, l, d) = false by unfold okT; simp [h0, h2]]
        go_enter Try.func10, Try.ntmps10
        go_wp2
        go_ret
        exact ⟨rfl, (Below.refl _ _).alloc (Nat.le_refl _) _⟩
    · have e1 : ((v : Int) == 0) = false := by simp; omega
      rw [show okT (v, l, d) = false by unfold okT; simp [h0, h1]]
      go_enter Try.func10, Try.ntmps10
      go_wp2
      go_ret
      exact ⟨rfl, (Below.refl _ _).alloc (Nat.le_refl _) _⟩
def sizeT (t : Tok) : Nat := if okT t = true then (if t.2.1 = 0 then 1 else t.2.1.toNat) else 0
theorem sizeT_le (t : Tok) : sizeT t ≤ 258 := by
  unfold sizeT
  split
  · rename_i h
    split
    · omega
    · rename_i h2
      unfold okT at h
      rw [if_neg h2] at h
      have := of_decide_eq_true h
      omega
  · omega
def sumT (l : List Tok) : Nat := (l.map sizeT).sum
theorem sumT_snoc (l : List Tok) (t : Tok) : sumT (l ++ [t]) = sumT l + sizeT t := by simp [sumT]
theorem sumT_le (l : List Tok) : sumT l ≤ 258 * l.length := by
  induction l with
  | nil => simp [sumT]
  | cons t l ih =>
    have := sizeT_le t
    simp only [sumT, List.map_cons, List.sum_cons, List.length_cons] at ih ⊢
    omega
theorem okT_len (v : Nat) (tl td : Int) (h : okT (v, tl, td) = true) : 0 ≤ tl ∧ tl ≤ 258 := by
  unfold okT at h
  simp only at h
  by_cases h0 : tl = 0
  · omega
  · rw [if_neg h0] at h
    have := of_decide_eq_true h
    omega
theorem size_any (t : Tok) (w : World) : Calls Try.prog 11 #[.agg #[.int .u8 (t.1 : Int), .int .i64 t.2.1, .int .i64 t.2.2]] w fun e w' => e = .returned (.int .i64 (sizeT t : Nat)) ∧ Below w.heap.size w w' := by
  obtain ⟨v, l, d⟩ := t
  simp only
  have hr := right_any (v, l, d) (w.alloc (.cells #[.int .u8 (v : Int), .int .i64 l, .int .i64 d] 31))
  simp only at hr
  have HR := Lib.hid hr
  have T1 := Lib.hid (Whole.new w 31 #[.int .u8 (v : Int), .int .i64 l, .int .i64 d] rfl)
  have HB := Lib.hid ((Below.refl w.heap.size w).alloc (Nat.le_refl _) (.cells #[.int .u8 (v : Int), .int .i64 l, .int .i64 d] 31))
  clear hr
  go_enter Try.func11, Try.ntmps11
  go_wp2_with fail
  refine HR.out.mono ?_
  rintro e w1 ⟨rfl, hb⟩
  have c1 := (T1.out.below' hb).cell 1
  have HB1 := Lib.hid (HB.out.trans (hb.mono HB.out.size))
  clear hb HR T1
  by_cases hk : okT (v, l, d) = true
  · rw [hk]
    have HK := Lib.hid (okT_len v l d hk)
    by_cases h0 : l = 0
    · have hs : sizeT (v, l, d) = 1 := by unfold sizeT; rw [if_pos hk, if_pos h0]
      have HSZ := Lib.hid hs
      have e0 : (l == 0) = true := by simpa using h0
      clear hk hs h0
      go_wp2
      go_ret
      rw [HSZ.out]
      exact ⟨rfl, HB1.out⟩
    · have hs : ((sizeT (v, l, d) : Nat) : Int) = l := by
        unfold sizeT
        rw [if_pos hk, if_neg h0]
        have := HK.out
        simp only
        omega
      have HSZ := Lib.hid hs
      have e0 : (l == 0) = false := by simpa using h0
      clear hk hs h0
      go_wp2
      go_ret
      rw [HSZ.out]
      exact ⟨rfl, HB1.out⟩
  · have hk' : okT (v, l, d) = false := by simpa using hk
    have hs : sizeT (v, l, d) = 0 := by unfold sizeT; rw [if_neg hk]
    rw [hk']
    have HSZ := Lib.hid hs
    clear hk hk' hs
    go_wp2
    go_ret
    rw [HSZ.out]
    exact ⟨rfl, HB1.out⟩
theorem rsize_any (t : Tok) (w : World) : Calls Try.prog 8 #[.agg #[.int .u8 (t.1 : Int), .int .i64 t.2.1, .int .i64 t.2.2]] w fun e w' => e = .returned (.int .i64 (sizeT t : Nat)) ∧ Below w.heap.size w w' := by
  obtain ⟨v, l, d⟩ := t
  simp only
  have hr := rright_any (v, l, d) (w.alloc (.cells #[.int .u8 (v : Int), .int .i64 l, .int .i64 d] 30))
  simp only at hr
  have HR := Lib.hid hr
  have T1 := Lib.hid (Whole.new w 30 #[.int .u8 (v : Int), .int .i64 l, .int .i64 d] rfl)
  have HB := Lib.hid ((Below.refl w.heap.size w).alloc (Nat.le_refl _) (.cells #[.int .u8 (v : Int), .int .i64 l, .int .i64 d] 30))
  clear hr
  go_enter Try.func8, Try.ntmps8
  go_wp2_with fail
  refine HR.out.mono ?_
  rintro e w1 ⟨rfl, hb⟩
  have c1 := (T1.out.below' hb).cell 1
  have HB1 := Lib.hid (HB.out.trans (hb.mono HB.out.size))
  clear hb HR T1
  by_cases hk : okT (v, l, d) = true
  · rw [hk]
    have HK := Lib.hid (okT_len v l d hk)
    obtain ⟨s, hs⟩ : ∃ s, sizeT (v, l, d) = s := ⟨_, rfl⟩
    have hm : (if l < 1 then (1 : Int) else l) = (s : Nat) := by
      rw [← hs]
      unfold sizeT
      rw [if_pos hk]
      have := HK.out
      simp only
      by_cases h0 : l = 0
      · rw [if_pos h0, if_pos (by omega)]
        rfl
      · rw [if_neg h0, if_neg (by omega)]
        omega
    have hm2 : (if 1 > l then (1 : Int) else l) = (s : Nat) := hm
    have HSZ := Lib.hid hs
    clear hk hs
    go_wp2
    go_ret
    rw [HSZ.out]
    exact ⟨rfl, HB1.out⟩
  · have hk' : okT (v, l, d) = false := by simpa using hk
    have hs : sizeT (v, l, d) = 0 := by unfold sizeT; rw [if_neg hk]
    rw [hk']
    have HSZ := Lib.hid hs
    clear hk hk' hs
    go_wp2
    go_ret
    rw [HSZ.out]
    exact ⟨rfl, HB1.out⟩
theorem take_snocT (l : List Tok) (j : Nat) (h : j < l.length) : l.take (j + 1) = l.take j ++ [l.getD j (0, 0, 0)] := by
  rw [List.take_succ_eq_append_getElem h, List.getD_eq_getElem?_getD, List.getElem?_eq_getElem h]
  rfl
set_option maxHeartbeats 2000000 in
theorem sizes_any (B : Option Addr) (m d : Nat) (l : List Tok) (R : Nat → Prop) (w : World) (hL : Toks w R B m l) (hm : m ≤ 1000) :
    Calls Try.prog 14 #[.slice B m d] w fun e w' => e = .returned (.int .i64 (sumT l : Nat)) ∧ Below w.heap.size w w' := by
  have HL := Lib.hid hL
  have HLL := Lib.hid hL.len
  clear hL
  go_enter Try.func14, Try.ntmps14
  go_wp2
  go_loopw [3, 8] (fun s i wr => ∃ j y : Nat, j ≤ m ∧ i = .int .i64 (j : Nat) ∧ s = .int .i64 (y : Nat) ∧ Hid (sumT (l.take j) = y) ∧ Hid (Below w.heap.size w wr)) (fun _ i _ => m - (intOf i).toNat)
  case atStart => exact ⟨0, 0, Nat.zero_le _, rfl, rfl, Lib.hid rfl, Below.refl _ _⟩
  case round =>
    obtain ⟨j, y, hj, rfl, rfl, hy, hB⟩ := hrel
    by_cases hlt : j < m
    · obtain ⟨tb, to, rfl, h0, h1, h2⟩ := (HL.out.below hB.out).at_ hlt
      have HT := Lib.hid (take_snocT l j (by rw [HLL.out]; exact hlt))
      have hyb : y ≤ 258000 := by
        have := sumT_le (l.take j)
        rw [hy.out] at this
        simp at this
        omega
      generalize l.getD j (0, 0, 0) = q at h0 h1 h2 HT
      obtain ⟨v, tl, td⟩ := q
      simp only at h0 h1 h2
      obtain ⟨s, hs⟩ : ∃ s, sizeT (v, tl, td) = s := ⟨_, rfl⟩
      have hsb : s ≤ 258 := by rw [← hs]; exact sizeT_le _
      have hr := size_any (v, tl, td) (wr.alloc (.cells #[.int .u8 (v : Int), .int .i64 tl, .int .i64 td] 31))
      rw [hs] at hr
      simp only at hr
      have HS := Lib.hid hs
      have HW1 := Lib.hid (hB.out.alloc hB.out.size (.cells #[.int .u8 (v : Int), .int .i64 tl, .int .i64 td] 31))
      clear hs
      go_wp2_with fail
      refine hr.mono ?_
      rintro e w2 ⟨rfl, hb2⟩
      have HW2 := Lib.hid (HW1.out.trans (hb2.mono HW1.out.size))
      clear hr hb2 HW1 h0 h1 h2
      go_wp2
      exact ⟨⟨j + 1, y + s, by omega, by go_num, by go_num, Lib.hid (by rw [HT.out, sumT_snoc, hy.out, HS.out]), HW2⟩, by simp [intOf]; omega⟩
    · obtain rfl : j = m := by omega
      have hfin : sumT l = y := by
        have := hy.out
        rwa [List.take_of_length_le (by rw [HLL.out]; exact Nat.le_refl _)] at this
      go_wp2
      go_ret
      rw [hfin]
      exact ⟨rfl, hB.out⟩
end Go.Proofs.Ytmnlghbmioekcaa
