/- BitoutBack: the law itself. -/
import Derived.Test.YthpbiakjkmhfeaaB3
namespace Go.Proofs.Ythpbiakjkmhfeaa
open Go.RowKit

theorem getD_mem {α : Type} (l : List α) (d : α) (j : Nat) (h : j < l.length) : l.getD j d ∈ l := by
  rw [List.getD_eq_getElem?_getD, List.getElem?_eq_getElem h]
  simp
theorem rs_drewN {w : World} {base g U l : Nat} (h : Rs w base g U l) (m : Nat) : Rs (w.drewN m) base g U l := h
theorem own_alloc {w : World} {base n sz : Nat} {e : TypeId} {v : Value} {xs : List Value} (h : w.ownsRow base e sz v n xs) (o : Obj) : (w.alloc o).ownsRow base e sz v n xs := h.alloc o
theorem ws_alloc {w : World} {base g V N : Nat} (h : Ws w base g V N) (o : Obj) : Ws (w.alloc o) base g V N := by
  obtain ⟨A, c, D, L, ⟨h1, h2, h3⟩, h4⟩ := h
  exact ⟨A, c, D, L, ⟨h1, h2.alloc o, own_alloc h3 o⟩, h4⟩
set_option maxRecDepth 100000 in
set_option maxHeartbeats 4000000 in
theorem back_law (A : Option Addr) (n c : Nat) (l : List (Int × Nat)) (W : World) (hL : Nv W A n l) (hq : ∀ q ∈ l, q.2 < 4294967296) :
    Calls Try.prog 5 #[.slice A n c] W fun e w' => e = .returned (.bool true) ∧ Below W.heap.size W w' := by
  have HLen := Lib.hid hL.1
  have HL := Lib.hid hL
  have HQ := Lib.hid hq
  clear hL hq
  go_enter Try.func5, Try.ntmps5
  go_wp2_with fail
  refine (awake_any _).mono ?_
  rintro e w1 ⟨rfl, hb1⟩
  have HB1 := Lib.hid hb1
  clear hb1
  by_cases hn : 100 < n
  · have d1 : decide ((100 : Int) < (n : Int)) = true := by simp; omega
    go_wp2
    go_ret
    exact ⟨rfl, HB1.out⟩
  have d1 : decide ((100 : Int) < (n : Int)) = false := by simp; omega
  go_wp2_with fail
  refine (new_any w1).mono ?_
  rintro e w2 ⟨rfl, rfl⟩
  obtain ⟨g, hg⟩ : ∃ g, w1.heap.size = g := ⟨_, rfl⟩
  have hgW : W.heap.size ≤ g := by rw [← hg]; exact HB1.out.size
  have HW0 : Hid (Ws (w1.alloc (.cells #[.slice none 0 0, .int .u64 0, .int .i64 0] 48)) W.heap.size g 0 0) := Lib.hid ⟨none, 0, [], 0, by rw [← hg]; exact new_wr w1 _, by simp [num], rfl⟩
  have HB2 := Lib.hid (HB1.out.alloc HB1.out.size (.cells #[.slice none 0 0, .int .u64 0, .int .i64 0] 48))
  have hgl : Hid (g < (w1.alloc (.cells #[.slice none 0 0, .int .u64 0, .int .i64 0] 48)).heap.size) := Lib.hid (by simp; omega)
  rw [hg]
  generalize w1.alloc (.cells #[.slice none 0 0, .int .u64 0, .int .i64 0] 48) = w2 at *
  clear hg d1 HB1
  go_wp2
  go_loopw [4] (fun i wr => ∃ j : Nat, j ≤ n ∧ i = .int .i64 j ∧ Hid (Ws wr W.heap.size g (enc (l.take j)) (blen (l.take j))) ∧ Hid (Below W.heap.size W wr)) (fun i _ => n - (intOf i).toNat)
  case atStart => exact ⟨0, Nat.zero_le _, rfl, HW0, HB2⟩
  case round =>
    obtain ⟨j, hj, rfl, hW, hB⟩ := hrel
    by_cases hlt : j < n
    · obtain ⟨b, off, rfl, hbl, hc1, hc2⟩ := (HL.out.below hB.out).2 j hlt
      have HT := Lib.hid (take_snoc l j (by rw [HLen.out]; exact hlt))
      have hx := HQ.out (l.getD j (0, 0)) (getD_mem l _ j (by rw [HLen.out]; exact hlt))
      have HBl := Lib.hid (blen_le (l.take j))
      have htl : (l.take j).length ≤ 100 := by simp; omega
      generalize l.getD j (0, 0) = q at hc1 hc2 HT hx
      obtain ⟨k, x⟩ := q
      simp only at hc1 hc2 hx
      have HWd : Hid (Ws wr.drew W.heap.size g (enc (l.take j)) (blen (l.take j))) := hW
      have HBd : Hid (Below W.heap.size W wr.drew) := Lib.hid hB.out.drew
      go_wp2
      refine wp_region_tail 11 (by kernel_rfl) (by kernel_rfl) ?_
      simp only [List.take_succ_cons, List.take_zero, List.drop_succ_cons, List.drop_zero]
      repeat still_step
      refine wpStill_nil ?_
      go_wp2_with fail
      by_cases hk : okN k
      · obtain ⟨k, rfl⟩ := Int.eq_ofNat_of_zero_le hk.1
        have hk32 : k ≤ 32 := by have := hk.2; omega
        refine (ws_put _ g _ _ x k _ HWd.out hk32 hx (by have := HBl.out; omega) hgW HBd.out.size).mono ?_
        rintro e w3 ⟨rfl, hW3, hb3⟩
        have HW3 : Hid (Ws w3 W.heap.size g (enc (l.take (j + 1))) (blen (l.take (j + 1)))) := by
          rw [HT.out, enc_append, blen_append]
          simp only [enc, blen, if_pos hk, Int.toNat_natCast, Nat.mul_zero, Nat.add_zero]
          exact Lib.hid hW3
        have HB3 := Lib.hid (HBd.out.trans hb3)
        clear hW3 hb3
        go_wp2
        exact ⟨⟨j + 1, by omega, by go_num, HW3, HB3⟩, by simp [intOf]; omega⟩
      · refine (put_bad g x k _ (by unfold okN at hk; omega)).mono ?_
        rintro e w3 ⟨rfl, rfl⟩
        have HW3 : Hid (Ws wr.drew W.heap.size g (enc (l.take (j + 1))) (blen (l.take (j + 1)))) := by
          rw [HT.out, enc_append, blen_append]
          simp only [enc, blen, if_neg hk, Nat.zero_mul, Nat.add_zero]
          exact HWd
        go_wp2
        exact ⟨⟨j + 1, by omega, by go_num, HW3, HBd⟩, by simp [intOf]; omega⟩
    · obtain rfl : n = j := by omega
      have hW2 : Ws wr W.heap.size g (enc l) (blen l) := by
        have h := hW.out
        rwa [List.take_of_length_le (by rw [HLen.out]; exact Nat.le_refl _)] at h
      have HW2 := Lib.hid hW2
      have HBl := Lib.hid (show blen l ≤ 3200 by have := blen_le l; rw [HLen.out] at this; omega)
      have hgl2 : g < wr.heap.size := by
        obtain ⟨A5, c5, D5, L5, h5, _⟩ := hW2
        exact h5.2.1.lt
      clear hW2 hW HW0 hj HB2 hgl hlt
      go_wp2_with fail
      refine (newrd_any wr).mono ?_
      rintro e w3 ⟨rfl, rfl⟩
      obtain ⟨g2, hg2⟩ : ∃ g2, wr.heap.size = g2 := ⟨_, rfl⟩
      rw [hg2]
      have hg2W : W.heap.size ≤ g2 := by omega
      have HR3 : Hid (Whole (wr.alloc (.cells #[.slice none 0 0, .int .i64 0, .int .i64 0] 53)) g2 53 #[.slice none 0 0, .int .i64 0, .int .i64 0]) := Lib.hid (Whole.new wr 53 _ hg2.symm)
      have HW3 : Hid (Ws (wr.alloc (.cells #[.slice none 0 0, .int .i64 0, .int .i64 0] 53)) W.heap.size g (enc l) (blen l)) := Lib.hid (ws_alloc HW2.out _)
      have HB3 := Lib.hid (hB.out.alloc hB.out.size (.cells #[.slice none 0 0, .int .i64 0, .int .i64 0] 53))
      generalize wr.alloc (.cells #[.slice none 0 0, .int .i64 0, .int .i64 0] 53) = w3 at *
      have hne : g2 ≠ g := by omega
      clear hg2 HW2 hB hgl2
      go_wp2_with fail
      refine (ws_feed _ g _ _ w3 HW3.out (by have := HBl.out; omega) hgW HB3.out.size).mono ?_
      rintro e w4 ⟨A5, c5, D5, rfl, hV5, hD5, hO5, hb5, hw5⟩
      have HR5 := Lib.hid (hw5 g2 53 _ HR3.out hne (by decide))
      have HB5 := Lib.hid (HB3.out.trans hb5)
      have HO5 := Lib.hid hO5
      have HD5 : Hid (D5.length ≤ 100000) := Lib.hid (by rw [hD5]; have := HBl.out; omega)
      have HV5 := Lib.hid hV5
      have HL5 := Lib.hid hD5
      clear hV5 hD5 hO5 hb5 hw5 HR3 HB3 HW3
      go_wp2_with fail
      refine (rs_feed _ g2 A5 c5 D5 w4 HR5.out HO5.out HD5.out hg2W HB5.out.size).mono ?_
      rintro e w5 ⟨rfl, hR6, hb6⟩
      rw [HV5.out] at hR6
      have HR6 : Hid (Rs w5 W.heap.size g2 (enc (l.drop 0)) (blen (l.drop 0) + (8 * D5.length - blen l))) := Lib.hid (by
        rw [List.drop_zero, show blen l + (8 * D5.length - blen l) = 8 * D5.length by rw [HL5.out]; omega]
        exact hR6)
      obtain ⟨pad, hpad⟩ : ∃ pad, 8 * D5.length - blen l = pad := ⟨_, rfl⟩
      have hp8 : pad < 8 := by rw [← hpad, HL5.out]; omega
      rw [hpad] at HR6
      have HB6 := Lib.hid (HB5.out.trans hb6)
      clear hR6 hb6 HR5 HB5 HO5 HD5 HV5 HL5 hpad
      go_wp2
      go_loopw [6] (fun i wr => ∃ j : Nat, j ≤ n ∧ i = .int .i64 j ∧ Hid (Rs wr W.heap.size g2 (enc (l.drop j)) (blen (l.drop j) + pad)) ∧ Hid (Below W.heap.size W wr)) (fun i _ => n - (intOf i).toNat)
      case atStart => exact ⟨0, Nat.zero_le _, rfl, HR6, HB6⟩
      case round =>
        obtain ⟨i, hi, rfl, hR, hB⟩ := hrel
        by_cases hlt : i < n
        · obtain ⟨b, off, rfl, hbl, hc1, hc2⟩ := (HL.out.below hB.out).2 i hlt
          have HT := Lib.hid (drop_head l i (by rw [HLen.out]; exact hlt))
          have hx := HQ.out (l.getD i (0, 0)) (getD_mem l _ i (by rw [HLen.out]; exact hlt))
          have hbl0 := (HL.out.below hB.out).2 i hlt
          have HC := Lib.hid ((HL.out).2 i hlt)
          generalize l.getD i (0, 0) = q at hc1 hc2 HT hx HC
          obtain ⟨k, x⟩ := q
          simp only at hc1 hc2 hx HC
          rw [HT.out, enc, blen] at hR
          clear hbl0
          by_cases hk : okN k
          · obtain ⟨k, rfl⟩ := Int.eq_ofNat_of_zero_le hk.1
            have hk32 : k ≤ 32 := by have := hk.2; omega
            simp only [if_pos hk, Int.toNat_natCast] at hR
            have e1 : decide ((k : Int) < 0) = false := by simp
            have e2 : decide (32 < (k : Int)) = false := by simp; omega
            have HK := Lib.hid hk
            clear hk
            obtain ⟨r, hr⟩ : ∃ r, x % 2 ^ k = r := ⟨_, rfl⟩
            have hp : 2 ^ k ≤ 2 ^ 32 := Nat.pow_le_pow_right (by omega) hk32
            have hp0 : 0 < 2 ^ k := Nat.pow_pos (by omega)
            have hrl : r < 2 ^ k := by rw [← hr]; exact Nat.mod_lt _ hp0
            have hU : (r + 2 ^ k * enc (l.drop (i + 1))) % 2 ^ k = r := by rw [Nat.add_mul_mod_self_left, Nat.mod_eq_of_lt hrl]
            have hV : (r + 2 ^ k * enc (l.drop (i + 1))) / 2 ^ k = enc (l.drop (i + 1)) := by rw [Nat.add_mul_div_left _ _ hp0, Nat.div_eq_of_lt hrl, Nat.zero_add]
            rw [hr] at hR
            have hRB := rs_bits _ g2 _ _ k wr hR.out hk32 (by omega) hg2W hB.out.size
            rw [hU, hV, show k + blen (l.drop (i + 1)) + pad - k = blen (l.drop (i + 1)) + pad by omega] at hRB
            have HRB := Lib.hid hRB
            have W1 : IntKind.u64.wrap (x : Int) = x := wrap_u64n _ (by omega)
            have W2 : IntKind.u64.wrap (r : Int) = r := wrap_u64n _ (by omega)
            obtain ⟨P, hP⟩ : ∃ P, 2 ^ k = P := ⟨_, rfl⟩
            have W3 : IntKind.u64.wrap ((2 : Int) ^ k) = (P : Int) := by rw [show ((2 : Int) ^ k) = ((2 ^ k : Nat) : Int) by simp, wrap_u64n _ (by omega), hP]
            have hP0 : ¬ (P : Int) = 0 := by omega
            rw [hP] at hr
            have E1 : ((r : Int) != (x : Int) % (P : Int)) = false := by rw [← hr]; simp
            clear hR hRB hU hV hrl hp hp0 hr hP
            go_wp2_with fail
            refine HRB.out.mono ?_
            rintro e w6 ⟨rfl, hR7, hb7⟩
            have HR7 := Lib.hid hR7
            have HB7 := Lib.hid (hB.out.trans hb7)
            obtain ⟨b', off', he, hbW, hd1, hd2⟩ := HC.out
            injection he with he
            injection he with he1 he2
            subst he1 he2
            have hd1 := (HB7.out.cell hbW).trans hd1
            have hd2 := (HB7.out.cell hbW).trans hd2
            clear hR7 hb7 hc1 hc2 HRB
            go_wp2
            go_quiet (fail)
            go_wp2
            exact ⟨⟨i + 1, by omega, by go_num, rs_drewN HR7.out _, HB7.out.drewN' _⟩, by simp [intOf]; omega⟩
          · simp only [if_neg hk] at hR
            have HR7 := Lib.hid hR.out
            by_cases k0 : k < 0
            · have e1 : decide (k < 0) = true := by simpa using k0
              go_wp2
              exact ⟨⟨i + 1, by omega, by go_num, HR7, hB⟩, by simp [intOf]; omega⟩
            · have e1 : decide (k < 0) = false := by simpa using k0
              have e2 : decide (32 < k) = true := by unfold okN at hk; simp; omega
              go_wp2
              exact ⟨⟨i + 1, by omega, by go_num, HR7, hB⟩, by simp [intOf]; omega⟩
        · obtain rfl : i = n := by omega
          have hR' := hR.out
          rw [List.drop_eq_nil_of_le (by rw [HLen.out]; exact Nat.le_refl _), enc, blen, Nat.zero_add] at hR'
          have HR' := Lib.hid hR'
          have d9 : decide ((pad : Int) < 8) = true := by simp; omega
          clear hR hR'
          go_wp2_with fail
          refine (rs_left _ g2 _ _ _ HR'.out).mono ?_
          rintro e w6 ⟨rfl, hb6⟩
          have HB7 := Lib.hid (hB.out.trans hb6)
          clear hb6
          go_wp2
          go_ret
          exact ⟨rfl, HB7.out⟩
end Go.Proofs.Ythpbiakjkmhfeaa
