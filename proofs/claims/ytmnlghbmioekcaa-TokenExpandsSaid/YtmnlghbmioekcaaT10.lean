/- TokenExpands: the law itself. -/
import Derived.Test.YtmnlghbmioekcaaT9
namespace Go.Proofs.Ytmnlghbmioekcaa
open Go.RowKit

theorem exs_size (l : List Tok) (xs : List UInt8) (h : (exs l xs).1 = 0) : (exs l xs).2.length = xs.length + sumT l := by
  induction l generalizing xs with
  | nil => simp [exs, sumT]
  | cons t l ih =>
    have hs : sumT (t :: l) = sizeT t + sumT l := by simp [sumT]
    rw [exs] at h ⊢
    split
    · rename_i h1
      rw [if_pos h1] at h
      cases h
    · rename_i h1
      rw [if_neg h1] at h
      have hok : okT t = true := by simpa using h1
      split
      · rename_i h2
        rw [if_pos h2] at h
        rw [ih _ h, hs, List.length_append, List.length_singleton]
        have : sizeT t = 1 := by unfold sizeT; rw [if_pos hok, if_pos h2]
        omega
      · rename_i h2
        rw [if_neg h2] at h
        split
        · rename_i h3
          rw [if_pos h3] at h
          cases h
        · rename_i h3
          rw [if_neg h3] at h
          rw [ih _ h, hs, rep_len]
          have : sizeT t = t.2.1.toNat := by unfold sizeT; rw [if_pos hok, if_neg h2]
          omega
set_option maxRecDepth 100000 in
set_option maxHeartbeats 8000000 in
theorem expands_law (A B : Option Addr) (n m c d : Nat) (xs : List UInt8) (l : List Tok) (W : World) (hA : Bs W (fun b => b < W.heap.size) A n xs) (hB : Toks W (fun b => b < W.heap.size) B m l) (hl : ∀ t ∈ l, t.1 < 256) :
    Calls Try.prog 3 #[.slice A n c, .slice B m d] W fun e w' => e = .returned (.bool true) ∧ Below W.heap.size W w' := by
  have HXL := Lib.hid hA.len
  have HLL := Lib.hid hB.len
  have HA := Lib.hid hA
  have HB := Lib.hid hB
  have HQ := Lib.hid hl
  clear hA hB hl
  go_enter Try.func3, Try.ntmps3
  go_wp2_with fail
  refine (awake_any _).mono ?_
  rintro e w1 ⟨rfl, hb1⟩
  have HW := Lib.hid hb1
  clear hb1
  go_wp2_with fail
  refine (few_any A B n m c d w1).mono ?_
  by_cases h1 : n ≤ 1000 ∧ m ≤ 100
  case neg =>
    rw [show (decide (n ≤ 1000) && decide (m ≤ 100)) = false by simp; omega]
    rintro e w2 ⟨rfl, rfl⟩
    go_wp2
    go_ret
    exact ⟨rfl, HW.out⟩
  rw [show (decide (n ≤ 1000) && decide (m ≤ 100)) = true by simp; omega]
  rintro e w2 ⟨rfl, rfl⟩
  obtain ⟨hn, hm⟩ := h1
  go_wp2_with fail
  refine (refs_any B m d l w1 (Lst.mono (HB.out.below HW.out) (fun b hb => by have := HW.out.size; omega)) (by omega)).mono ?_
  rintro e w2 ⟨A3, c3, rfl, hT, hb⟩
  have HW2 := Lib.hid (HW.out.trans (hb.mono HW.out.size))
  have HT : Hid (Toks w2 (fun b => W.heap.size ≤ b ∧ b < w2.heap.size) A3 m l) := Lib.hid (Lst.mono (Lst.and_lt hT) (fun b hb => by have := HW.out.size; exact ⟨by omega, hb.2⟩))
  clear hb hT HW
  go_wp2
  go_loopw [5, 7] (fun s i wr => ∃ j y : Nat, j ≤ m ∧ i = .int .i64 (j : Nat) ∧ s = .int .i64 (y : Nat) ∧ Hid (sumT (l.take j) = y) ∧ Hid (Below w2.heap.size w2 wr)) (fun _ i _ => m - (intOf i).toNat)
  case atStart => exact ⟨0, 0, Nat.zero_le _, rfl, rfl, Lib.hid rfl, Below.refl _ _⟩
  case round =>
    obtain ⟨j, y, hj, rfl, rfl, hy, hW3⟩ := hrel
    have HW3 := Lib.hid (HW2.out.trans (hW3.out.mono HW2.out.size))
    by_cases hlt : j < m
    · obtain ⟨tb, to, rfl, _, hbl, h0, h1, h2⟩ := (HB.out.below HW3.out).at2 hlt
      obtain ⟨rb, ro, rfl, _, hrl, r0, r1, r2⟩ := (HT.out.below hW3.out).at2 hlt
      have HC := Lib.hid (fun w' (hb : Below W.heap.size W w') => (HB.out.below hb).at2 hlt)
      have HC2 := Lib.hid (fun w' (hb : Below w2.heap.size w2 w') => (HT.out.below hb).at2 hlt)
      have HS := Lib.hid (take_snocT l j (by rw [HLL.out]; exact hlt))
      have hyb : y ≤ 25800 := by
        have := sumT_le (l.take j)
        rw [hy.out] at this
        simp at this
        omega
      generalize l.getD j (0, 0, 0) = q at h0 h1 h2 r0 r1 r2 HS HC HC2
      obtain ⟨v, tl, td⟩ := q
      simp only at h0 h1 h2 r0 r1 r2 HC HC2
      obtain ⟨s, hs⟩ : ∃ s, sizeT (v, tl, td) = s := ⟨_, rfl⟩
      obtain ⟨o, ho⟩ : ∃ o, okT (v, tl, td) = o := ⟨_, rfl⟩
      have hsb : s ≤ 258 := by rw [← hs]; exact sizeT_le _
      have F8 := fun w => rsize_any (v, tl, td) w
      have F9 := fun w => right_any (v, tl, td) w
      have F10 := fun w => rright_any (v, tl, td) w
      have F11 := fun w => size_any (v, tl, td) w
      rw [hs] at F8 F11
      rw [ho] at F9 F10
      simp only at F8 F9 F10 F11
      have F8 := Lib.hid F8
      have F9 := Lib.hid F9
      have F10 := Lib.hid F10
      have F11 := Lib.hid F11
      have HSS := Lib.hid hs
      clear hs ho
      go_wp2_with fail
      refine (F8.out _).mono ?_
      rintro e w4 ⟨rfl, hb4⟩
      have hW4 := Lib.hid (hW3.out.trans (hb4.mono hW3.out.size))
      have HW4 := Lib.hid (HW3.out.trans (hb4.mono HW3.out.size))
      clear hb4 h0 h1 h2 r0 r1 r2 hbl hrl
      obtain ⟨tb', to', he, _, hbl, h0, h1, h2⟩ := HC.out w4 HW4.out
      injection he with he
      injection he with he1 he2
      subst he1 he2
      obtain ⟨rb', ro', he, _, hrl, r0, r1, r2⟩ := HC2.out w4 hW4.out
      injection he with he
      injection he with he1 he2
      subst he1 he2
      clear HC HC2
      go_wp2
      refine wp_region_over (by kernel_rfl) (by kernel_rfl) ?_
      repeat (go_big_quiet_step ((first | (go_at_call 9; exact Calls.over_of (F9.out _)) | (go_at_call 10; exact Calls.over_of (F10.out _)) | (go_at_call 11; exact Calls.over_of (F11.out _)) | (go_at_call 8; exact Calls.over_of (F8.out _)))))
      refine wpQuiet_nil ?_
      intro w6 hb6
      have hW6 := Lib.hid (hW4.out.trans (hb6.mono hW4.out.size))
      clear hb6 h0 h1 h2 r0 r1 r2
      go_wp2
      exact ⟨⟨j + 1, y + s, by omega, by go_num, by go_num, Lib.hid (by rw [HS.out, sumT_snoc, hy.out, HSS.out]), hW6⟩, by simp [intOf]; omega⟩
    · obtain rfl : j = m := by omega
      have hfin : sumT l = y := by
        have := hy.out
        rwa [List.take_of_length_le (by rw [HLL.out]; exact Nat.le_refl _)] at this
      have HF := Lib.hid hfin
      have dj : decide ((j : Int) < (j : Int)) = false := by simp
      have HT3 := Lib.hid (HT.out.below hW3.out)
      clear hfin HT hy hW3
      have hx := expand_any A B n j c d xs l _ _ wr (HA.out.below HW3.out) (HB.out.below HW3.out) (by omega) (by omega) HQ.out
      have HES := Lib.hid (exs_size l xs)
      obtain ⟨R, hR⟩ : ∃ R, exs l xs = R := ⟨_, rfl⟩
      rw [hR] at hx HES
      have HRR := Lib.hid hR
      obtain ⟨rc, rl⟩ := R
      clear hR
      go_wp2_with fail
      refine hx.mono ?_
      clear hx
      rintro e w4 ⟨A6, c6, k6, rfl, _, hB6, hb6⟩
      have HW4 := Lib.hid (HW3.out.trans (hb6.mono HW3.out.size))
      have HT4 := Lib.hid (HT3.out.below hb6)
      have HB6 := Lib.hid hB6
      clear hb6 hB6 HT3
      have hx := rexpand_any A A3 n j c c3 xs l _ _ w4 (HA.out.below HW4.out) HT4.out (by omega) (by omega) HQ.out
      rw [HRR.out] at hx
      go_wp2_with fail
      refine hx.mono ?_
      clear hx
      rintro e w5 ⟨A7, c7, k7, rfl, _, hB7, hb7⟩
      have HW5 := Lib.hid (HW4.out.trans (hb7.mono HW4.out.size))
      have HB65 := Lib.hid (HB6.out.below hb7)
      have HB7 := Lib.hid hB7
      clear hb7 hB7 HT4 HB6
      have hx := sizes_any B j d l _ w5 (HB.out.below HW5.out) (by omega)
      rw [HF.out] at hx
      go_wp2_with fail
      refine hx.mono ?_
      clear hx
      rintro e w6 ⟨rfl, hb6⟩
      have HW6 := Lib.hid (HW5.out.trans (hb6.mono HW5.out.size))
      have y1 := str_of c6 (HB65.out.below hb6)
      have y2 := str_of c7 (HB7.out.below hb6)
      have HK6 := Lib.hid HB65.out.len
      try dsimp only at y1
      try dsimp only at y2
      try dsimp only at HK6
      try dsimp only at HES
      clear hb6
      by_cases hr0 : rc = 0
      · have hk : k6 = y := by
          have h1 := HES.out hr0
          rw [HF.out, HXL.out] at h1
          have h2 := HK6.out
          rw [List.length_drop] at h2
          omega
        subst hr0
        subst hk
        go_wp2
        go_ret
        exact ⟨rfl, HW6.out⟩
      · have e2 : (rc != 0) = true := by simpa using hr0
        go_wp2
        go_ret
        exact ⟨rfl, HW6.out⟩
end Go.Proofs.Ytmnlghbmioekcaa
