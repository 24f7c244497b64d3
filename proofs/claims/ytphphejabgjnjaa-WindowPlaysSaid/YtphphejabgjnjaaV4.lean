/- The example; WindowRepeats. -/
import Derived.Test.YtphphejabgjnjaaV3
namespace Go.Proofs.Ytphphejabgjnjaa
open Go.RowKit

theorem str_of {w : World} {S : Nat → Prop} {A : Option Addr} {n : Nat} {bs : List UInt8} (c : Nat) (h : Bs w S A n bs) : (convert 27 9 (.slice A n c)).run Try.prog w = .ok (.string ⟨bs.toArray⟩) w :=
  run_string_bs 27 9 5 c Try.underlying27 Try.underlying5 Try.underlying9 h
theorem ptr_ne (g : Nat) (w : World) : (binOp .eql 25 (.pointer (some ⟨g, 0, none⟩)) (.pointer none)).run Try.prog w = .ok (.bool false) w := by kernel_rfl
theorem cpt_ex : cpt [97, 98] 2 5 = [97, 98, 97, 98, 97] := by decide
theorem OwnB.bs {w : World} {base q n cap : Nat} {bs : List UInt8} (h : OwnB w base q n cap bs) : Bs w (fun b => base ≤ b) (some ⟨q, 0, none⟩) n bs := Bs.of_own h
set_option maxRecDepth 10000000 in
theorem awake_any (w : World) : Calls Try.prog 5 #[] w fun e w' => e = .returned (.bool true) ∧ Below w.heap.size w w' := by
  go_enter Try.func5, Try.ntmps5
  go_wp2_with fail
  refine (new_any w).mono ?_
  rintro e w1 ⟨g, rfl, hV, hg, hb1⟩
  have HV := Lib.hid hV
  have HB := Lib.hid hb1
  have hp := ptr_ne g
  have hgl := hV.lt
  clear hV hb1
  go_wp2_with fail
  refine (put_any g 2 2 _ [] [97, 98] _ _ (HV.out.below ((Below.refl _ _).alloc (Nat.le_refl _) (.cells #[.int .u8 97, .int .u8 98] 5))) (Lst.new (size := 1) w1 5 #[.int .u8 97, .int .u8 98] 2 rfl (fr := (0, 0)) rfl) (fun b e => by omega) (by simp)).mono ?_
  rintro e w2 ⟨rfl, hV2, hA2⟩
  have HV2 : Hid (Wnd w2 g [97, 98]) := Lib.hid hV2
  have HB2 := Lib.hid (hA2.below (HB.out.alloc HB.out.size (.cells #[.int .u8 97, .int .u8 98] 5)) hg (Nat.le_trans HB.out.size (by simp)))
  clear hV2 hA2
  go_wp2_with fail
  refine (copy_any g 2 5 [97, 98] _ HV2.out (by omega) (by simp [wlen]) (by omega) (by simp)).mono ?_
  rw [show CopyP g [97, 98] 2 5 w2 = fun e w' => ∃ q, e = .returned (.tuple #[.slice (some ⟨q, 0, none⟩) 5 5, .int .i64 0]) ∧ OwnB w' w2.heap.size q 5 5 [97, 98, 97, 98, 97] ∧ Wnd w' g (cpy [97, 98] 2 5) ∧ Alone w2 w' g from by unfold CopyP; rw [cpt_ex]]
  rintro e w3 ⟨q, rfl, hO, -, hA⟩
  have HB3 := Lib.hid (hA.below HB2.out hg HB2.out.size)
  have k1 := str_of (w := w3) 5 hO.bs
  clear hO hA
  go_wp2
  go_ret
  exact ⟨rfl, HB3.out⟩
theorem cpy_at (b : List UInt8) (d n j : Nat) (h1 : 1 ≤ d) (h2 : d ≤ b.length) (hj : j < b.length + n) : (cpy b d n).getD j 0 = if j < b.length then b.getD j 0 else b.getD (b.length - d + (j - b.length) % d) 0 := by
  induction n generalizing j with
  | zero => rw [if_pos (by omega)]; rfl
  | succ n ih =>
    simp only [cpy]
    by_cases hlt : j < b.length + n
    · rw [getD_append_left _ _ _ (by rw [cpy_len]; exact hlt)]
      exact ih j hlt
    · obtain rfl : j = b.length + n := by omega
      have hl := cpy_len b d n
      have e := getD_append_last (cpy b d n) ((cpy b d n).getD (b.length + n - d) 0)
      rw [hl] at e
      rw [e, if_neg (show ¬ b.length + n < b.length by omega), Nat.add_sub_cancel_left, ih _ (by omega)]
      by_cases hn : n < d
      · rw [if_pos (by omega), Nat.mod_eq_of_lt hn]
        congr 1
        omega
      · rw [if_neg (by omega), show b.length + n - d - b.length = n - d by omega, ← Nat.mod_eq_sub_mod (by omega)]
theorem cpt_at (b : List UInt8) (d n i : Nat) (h1 : 1 ≤ d) (h2 : d ≤ b.length) (hi : i < n) : (cpt b d n).getD i 0 = b.getD (b.length - d + i % d) 0 := by
  unfold cpt
  rw [List.getD_eq_getElem?_getD, List.getElem?_drop, ← List.getD_eq_getElem?_getD, cpy_at b d n _ h1 h2 (by omega), if_neg (by omega), Nat.add_sub_cancel_left]
set_option maxRecDepth 10000000 in
set_option maxHeartbeats 2000000 in
theorem repeats_law (A : Option Addr) (n0 c dist nn : Nat) (b : List UInt8) (W : World) (hB : Bs W (fun b => b < W.heap.size) A n0 b) (hdist : dist < 256) (hnn : nn < 65536) (hcap : n0 ≤ 9223372036854775807) :
    Calls Try.prog 4 #[.slice A n0 c, .int .u8 (dist : Nat), .int .u16 (nn : Nat)] W fun e w' => e = .returned (.bool true) ∧ Below W.heap.size W w' := by
  have hn := hB.len
  subst hn
  have HB := Lib.hid hB
  clear hB
  go_enter Try.func4, Try.ntmps4
  go_wp2_with fail
  refine (awake_any W).mono ?_
  rintro e w1 ⟨rfl, hb1⟩
  have HW1 := Lib.hid hb1
  clear hb1
  by_cases h0 : b.length = 0
  · have x0 : (b.length == 0) = true := by rw [h0]; rfl
    have x0' : ((b.length : Int) == 0) = true := by rw [h0]; rfl
    clear h0
    go_wp2
    go_ret
    exact ⟨rfl, HW1.out⟩
  · have x0 : (b.length == 0) = false := by rw [beq_eq_false_iff_ne]; exact h0
    have x0' : ((b.length : Int) == 0) = false := by rw [beq_eq_false_iff_ne]; omega
    by_cases h3 : 300 < b.length
    · have x1 : decide (300 < b.length) = true := by simpa using h3
      clear h0
      go_wp2
      go_ret
      exact ⟨rfl, HW1.out⟩
    · have x1 : decide (300 < b.length) = false := by simpa using h3
      obtain ⟨L, hL⟩ : ∃ L, b.length = L := ⟨_, rfl⟩
      rw [hL] at h0 h3 x0 x0' x1 HB ⊢
      have HL := Lib.hid hL
      have hL1 : 1 ≤ L := by omega
      have hL3 : L ≤ 300 := by omega
      obtain ⟨t0, ht0⟩ : ∃ t0, dist % L = t0 := ⟨_, rfl⟩
      have htl : t0 < L := by rw [← ht0]; exact Nat.mod_lt _ (by omega)
      obtain ⟨d, hd⟩ : ∃ d, 1 + t0 = d := ⟨_, rfl⟩
      obtain ⟨k, hk⟩ : ∃ k, nn % 2000 = k := ⟨_, rfl⟩
      have hkb : k < 2000 := by omega
      have z0 : ¬ (L : Int) = 0 := by omega
      have z0' : ¬ L = 0 := by omega
      have y1 : (dist : Int).tmod (L : Int) = (t0 : Int) := by rw [← ht0]; exact (Int.ofNat_tmod dist L).symm
      have y2 : (1 : Int) + (t0 : Int) = (d : Int) := by omega
      have y3 : (nn : Int).tmod 2000 = (k : Int) := by rw [← hk]; exact (Int.ofNat_tmod nn 2000).symm
      have y4 : (nn : Int) % 2000 = (k : Int) := by omega
      have y5 : (dist : Int) % (L : Int) = (t0 : Int) := by rw [← ht0]; rfl
      have hd1 : 1 ≤ d := by omega
      have hdL : d ≤ L := by omega
      clear hL ht0 hd hk hcap h3 h0 htl
      go_wp2_with fail
      refine (new_any w1).mono ?_
      rintro e w2 ⟨g, rfl, hV, hg, hb2⟩
      have HV := Lib.hid hV
      have HW2 := Lib.hid (HW1.out.trans (hb2.mono HW1.out.size))
      have hgW : W.heap.size ≤ g := by have := HW1.out.size; omega
      clear hV hb2
      go_wp2_with fail
      refine (put_any g L c A [] b _ w2 HV.out (HB.out.below HW2.out) (fun b h => by omega) (by simp; omega)).mono ?_
      rintro e w3 ⟨rfl, hV3, hA3⟩
      have HV3 : Hid (Wnd w3 g b) := Lib.hid hV3
      have HW3 := Lib.hid (hA3.below HW2.out hgW HW2.out.size)
      clear hV3 hA3
      go_wp2_with fail
      refine (copy_any g d k b w3 HV3.out hd1 (by unfold wlen; rw [HL.out]; omega) (by omega) (by rw [HL.out]; omega)).mono ?_
      rintro e w4 ⟨q, rfl, hO, hV4, hA4⟩
      have HV4 := Lib.hid hV4
      have HO := Lib.hid hO
      have HW4 := Lib.hid (hA4.below HW3.out hgW HW3.out.size)
      clear hO hV4 hA4
      go_wp2
      go_loopw [12] (fun i wr => ∃ j : Nat, j ≤ k ∧ i = .int .i64 (j : Nat) ∧ ∃ z, wr = w4.drewN z) (fun i _ => k - (intOf i).toNat)
      case atStart => exact ⟨0, Nat.zero_le _, rfl, 0, rfl⟩
      case round =>
        obtain ⟨j, hj, rfl, z, rfl⟩ := hrel
        by_cases hlt : j < k
        · obtain ⟨b1, o1, hb1, _, _, c1⟩ := HO.out.bs.at_ hlt
          injection hb1 with hb1
          injection hb1 with q1 q2 _
          subst q1 q2
          rw [cpt_at b d k j hd1 (by rw [HL.out]; exact hdL) hlt, HL.out, Nat.zero_add] at c1
          obtain ⟨t, ht⟩ : ∃ t, j % d = t := ⟨_, rfl⟩
          have htd : t < d := by rw [← ht]; exact Nat.mod_lt _ (by omega)
          obtain ⟨p, hp⟩ : ∃ p, L - d + t = p := ⟨_, rfl⟩
          rw [ht, hp] at c1
          have hpL : p < L := by omega
          obtain ⟨b2, o2, rfl, _, _, c2⟩ := (HB.out.below HW4.out).at_ hpL
          obtain ⟨x, hx⟩ : ∃ x, b.getD p 0 = x := ⟨_, rfl⟩
          rw [hx] at c1 c2
          obtain ⟨s, hs⟩ : ∃ s, L - d = s := ⟨_, rfl⟩
          have e1 : IntKind.i64.wrap ((L : Int) - (d : Int)) = (s : Int) := by rw [IntWalk.i64_in _ (by omega)]; omega
          have e2 : (j : Int).tmod (d : Int) = (t : Int) := by rw [← ht]; exact (Int.ofNat_tmod j d).symm
          have e3 : IntKind.i64.wrap ((s : Int) + (t : Int)) = (p : Int) := by rw [IntWalk.i64_in _ (by omega)]; omega
          have z1 : ¬ (d : Int) = 0 := by omega
          have z1' : ¬ d = 0 := by omega
          have g1 : (p : Int) < (L : Int) := by omega
          clear hx hs ht hp
          go_wp2
          go_quiet (fail)
          go_wp2
          exact ⟨⟨j + 1, by omega, by go_num, z + nq, by first | rfl | simp⟩, by simp [intOf]; omega⟩
        · obtain rfl : j = k := by omega
          go_wp2_with fail
          refine (all_any g (cpy b d j) _ (HV4.out.drewN z)).mono ?_
          rintro e wx ⟨rfl, rfl⟩
          rw [cpy_len, HL.out]
          go_wp2
          go_ret
          exact ⟨rfl, HW4.out.drewN' _⟩
end Go.Proofs.Ytphphejabgjnjaa
