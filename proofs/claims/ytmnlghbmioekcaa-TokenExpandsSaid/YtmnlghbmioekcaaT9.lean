/- The page's Expand. -/
import Derived.Test.YtmnlghbmioekcaaT8
namespace Go.Proofs.Ytmnlghbmioekcaa
open Go.RowKit

theorem firm_own {b n c : Nat} {A : Option Addr} {xs : List Value} : Firm fun w => w.ownsRow b 5 1 (.slice A n c) n xs := fun _ _ h he => own_below h he
theorem own_mono {w : World} {b b' n sz : Nat} {e : TypeId} {v : Value} {xs : List Value} (h : w.ownsRow b' e sz v n xs) (hb : b ≤ b') : w.ownsRow b e sz v n xs := by
  refine ⟨h.1, ?_⟩
  rcases h.2 with h1 | ⟨g, cap, cur, h1, h2, h3⟩
  · exact .inl h1
  · exact .inr ⟨g, cap, cur, h1, Nat.le_trans hb h2, h3⟩
set_option maxHeartbeats 8000000 in
theorem rexpand_any (A B : Option Addr) (n m c d : Nat) (xs : List UInt8) (l : List Tok) (S R : Nat → Prop) (w : World) (hA : Bs w S A n xs) (hL : Toks w R B m l) (hn : n ≤ 32768) (hm : m ≤ 1000) (hq : ∀ q ∈ l, q.1 < 256) :
    Calls Try.prog 13 #[.slice A n c, .slice B m d] w (Exd w n (exs l xs)) := by
  obtain ⟨i0, hi, hz0, hz1, hz2⟩ := info_parts info5
  have HA := Lib.hid hA
  have HL := Lib.hid hL
  have HQ := Lib.hid hq
  have HXL := Lib.hid hA.len
  have HLL := Lib.hid hL.len
  clear hA hL hq
  go_enter Try.func13, Try.ntmps13
  go_wp2_with (at_builtin; refine wpList_append_list _ rfl (.tmp 8) (.tmp 9) 22 rfl w.heap.size 5 i0 (.int .u8 0) 1 1 Try.underlying22 hi hz0 hz1 hz2 rfl (by decide) (.slice (some ⟨w.heap.size, 0, none⟩) 0 0) 0 [] rfl (own_nothing w 5 1 (Nat.le_refl _)) _ A n c _ rfl (Lst.alloc HA.out _) oneCell_bytes (by unfold maxLen; omega) (by omega) (by simp) ?_)
  intro A1 c1 w1 hown3 hgrow3 hat3
  have HB := Lib.hid (((Below.refl w.heap.size w).alloc (Nat.le_refl _) (.cells #[] 5)).grown hgrow3 (by simp) (fun g e => by simp [Value.ownBlock] at e; omega))
  have HO : Hid (w1.ownsRow w.heap.size 5 1 (.slice A1 n c1) n (xs.map bv)) := Lib.hid (by simpa using hown3)
  clear hown3 hgrow3 hat3
  go_wp2
  go_loopw [6, 7] (fun al i wr => ∃ (j N : Nat) (ys : List UInt8) (A2 : Option Addr) (c2 : Nat), j ≤ m ∧ i = .int .i64 (j : Nat) ∧ al = .slice A2 N c2 ∧ Hid (ys.length = N) ∧ Hid (exs l xs = exs (l.drop j) ys) ∧ N ≤ 32768 + 258 * j ∧ n ≤ N ∧ Hid (wr.ownsRow w.heap.size 5 1 (.slice A2 N c2) N (ys.map bv)) ∧ Hid (Below w.heap.size w wr)) (fun _ i _ => m - (intOf i).toNat)
  case atStart => exact ⟨0, n, xs, A1, c1, Nat.zero_le _, rfl, rfl, HXL, Lib.hid (by rw [List.drop_zero]), by omega, Nat.le_refl _, HO, HB⟩
  case round =>
    obtain ⟨j, N, ys, A2, c2, hj, rfl, rfl, HN, hE, hyl, hxy, hO, hW⟩ := hrel
    by_cases hlt : j < m
    · obtain ⟨tb, to, rfl, h0, h1, h2⟩ := (HL.out.below hW.out).at_ hlt
      have HD := Lib.hid (drop_cons l j (by rw [HLL.out]; exact hlt))
      have hv := HQ.out (l.getD j (0, 0, 0)) (by rw [List.getD_eq_getElem?_getD, List.getElem?_eq_getElem (by rw [HLL.out]; exact hlt)]; simp)
      have HC := Lib.hid (fun w' (hb : Below w.heap.size w w') => (HL.out.below hb).at2 hlt)
      generalize l.getD j (0, 0, 0) = q at h0 h1 h2 HD hv HC
      rw [HD.out, exs] at hE
      obtain ⟨v, tl, td⟩ := q
      simp only at h0 h1 h2 hE hv HC
      have hr := rright_any (v, tl, td) wr
      simp only at hr
      go_wp2_with fail
      refine hr.mono ?_
      rintro e w2 ⟨rfl, hb2⟩
      have HO2 := Lib.hid (own_below hO.out hb2)
      have HW2 := Lib.hid (hW.out.trans (hb2.mono hW.out.size))
      obtain ⟨tb', to', he, _, hbl, h0, h1, h2⟩ := HC.out w2 HW2.out
      injection he with he
      injection he with he1 he2
      subst he1 he2
      clear hr hb2 hO hW HC
      by_cases hok : okT (v, tl, td) = true
      · rw [if_neg (by simp [hok])] at hE
        rw [hok]
        have HK := Lib.hid hok
        clear hok
        by_cases hz : tl = 0
        · rw [if_pos hz] at hE
          have e0 : (tl == 0) = true := by simpa using hz
          clear hz
          go_wp2_with (at_builtin; refine wpList_append_list _ rfl (.tmp 29) (.tmp 35) 22 rfl w.heap.size 5 i0 (.int .u8 0) 1 1 Try.underlying22 hi hz0 hz1 hz2 rfl (by decide) (.slice A2 N c2) N _ rfl (HO2.out.alloc _) _ (some ⟨w2.heap.size, 0, none⟩) 1 1 [.int .u8 (v : Int)] rfl (Lst.new w2 5 #[.int .u8 (v : Int)] 1 rfl rfl) (by simp [Value.oneCell']) (by unfold maxLen; omega) (by omega) (by have := HW2.out.size; simp; omega) ?_)
          intro A3 c3 x3 hown3 hgrow3 hat3
          have HO3 : Hid (x3.ownsRow w.heap.size 5 1 (.slice A3 (N + 1) c3) (N + 1) ((ys ++ [UInt8.ofNat v]).map bv)) := by
            rw [List.map_append, List.map_singleton, byte_of v hv]
            exact Lib.hid hown3
          have HW3 := Lib.hid ((HW2.out.alloc HW2.out.size _).grown hgrow3 (by have := HW2.out.size; simp; omega) (fun g e => (HO2.out.lt g e).1))
          clear hown3 hgrow3 hat3
          go_wp2
          exact ⟨⟨j + 1, N + 1, ys ++ [UInt8.ofNat v], A3, c3, by omega, by go_num, rfl, Lib.hid (by rw [List.length_append, HN.out, List.length_singleton]), hE, by omega, by omega, HO3, HW3⟩, by simp [intOf]; omega⟩
        · rw [if_neg hz] at hE
          have e0 : (tl == 0) = false := by simpa using hz
          have hb := HK.out
          unfold okT at hb
          rw [if_neg hz] at hb
          have hb := of_decide_eq_true hb
          simp only at hb
          obtain ⟨hb0, hb1, hb2, hb3, hb4⟩ := hb
          subst hb0
          clear hz
          obtain ⟨L, rfl⟩ := Int.eq_ofNat_of_zero_le (show 0 ≤ tl by omega)
          obtain ⟨D, rfl⟩ := Int.eq_ofNat_of_zero_le (show 0 ≤ td by omega)
          simp only [Int.toNat_natCast] at hE
          by_cases hdl : N < D
          · rw [if_pos (by rw [HN.out]; omega)] at hE
            have e1 : decide ((N : Int) < (D : Int)) = true := by simp; omega
            go_wp2
            go_ret2
            rw [hE.out]
            exact ⟨none, 0, 0, rfl, Nat.le_refl _, by rw [List.drop_nil]; exact Bs.empty _ _ _, HW2.out⟩
          · rw [if_neg (by rw [HN.out]; omega)] at hE
            have e1 : decide ((N : Int) < (D : Int)) = false := by simp; omega
            have hDN : D ≤ N := by omega
            have hD1 : 1 ≤ D := by omega
            have hLb : L ≤ 258 := by omega
            have hL1 : 1 ≤ L := by omega
            have hOB := Bs.of_own HO2.out
            have HOB := Lib.hid hOB
            clear hOB
            go_wp2
            refine wp_region_free (by kernel_rfl) (by kernel_rfl) (by kernel_rfl) ?_
            iterate 11 (first | (refine free_skip rfl rfl ?_; intro K hK; go_big_quiet_op; go_big_quiet_on) | (refine free_hard rfl rfl ?_; intro K hK; go_big_quiet_op; go_big_quiet_on))
            refine free_soft (ι := Option Addr × Nat × Value) (fun i => .tuple #[.slice i.1 (N + L) i.2.1, i.2.2]) (fun i w' => w'.ownsRow w.heap.size 5 1 (.slice i.1 (N + L) i.2.1) (N + L) ((rep ys D L).map bv)) rfl rfl rfl (fun _ => firm_own) (fun w' hw' => ?_) (fun i => ?_)
            · have hb := hw'.1.below
              have HW := Lib.hid hw'
              clear hw'
              go_simp
              refine (copy_any A2 N c2 D L ys _ w' (HOB.out.below hb) (by omega) hD1 hDN hL1 (by omega)).mono ?_
              rintro e w9 ⟨A4, c4, v4, rfl, ho, hb2⟩
              exact ⟨hb2, (A4, c4, v4), rfl, own_mono ho (by have := HW2.out.size; have := hb.size; omega)⟩
            obtain ⟨A4, c4, v4⟩ := i
            dsimp only
            intro K hK
            go_big_quiet_op
            go_big_quiet_on
            iterate 4 (first | (refine free_skip rfl rfl ?_; intro K hK; go_big_quiet_op; go_big_quiet_on) | (refine free_hard rfl rfl ?_; intro K hK; go_big_quiet_op; go_big_quiet_on))
            refine free_nil ?_
            intro w4 hb4 hk4
            have HW4 := Lib.hid (HW2.out.trans (hb4.mono HW2.out.size))
            have HO4 : Hid (w4.ownsRow w.heap.size 5 1 (.slice A4 (N + L) c4) (N + L) ((rep ys D L).map bv)) := Lib.hid (by
              have h := hk4 11
              simpa [upd] using h)
            have hrl : (rep ys D L).length = N + L := by rw [rep_len, HN.out]
            have HRL := Lib.hid hrl
            clear hb4 hrl hk4
            go_wp2
            exact ⟨⟨j + 1, N + L, rep ys D L, A4, c4, by omega, by go_num, rfl, HRL, hE, by omega, by omega, HO4, HW4⟩, by simp [intOf]; omega⟩
      · have hok' : okT (v, tl, td) = false := by simpa using hok
        rw [if_pos hok'] at hE
        rw [hok']
        clear hok hok'
        go_wp2
        go_ret2
        rw [hE.out]
        exact ⟨none, 0, 0, rfl, Nat.le_refl _, by rw [List.drop_nil]; exact Bs.empty _ _ _, HW2.out⟩
    · obtain rfl : j = m := by omega
      have hE2 : exs l xs = (0, ys) := by rw [hE.out, List.drop_eq_nil_of_le (by rw [HLL.out]; exact Nat.le_refl _)]; rfl
      have HE2 := Lib.hid hE2
      have hcap := own_cap hO.out
      have i1 : (n : Int) ≤ (N : Int) := by omega
      have HOB := Lib.hid (Bs.of_own hO.out)
      clear hE hE2
      by_cases hcp : c2 = n
      · have hNP : N = n := by omega
        subst hcp
        subst hNP
        go_wp2
        go_ret2
        rw [HE2.out]
        exact ⟨A2, _, 0, rfl, Nat.zero_le _, by simp only; rw [List.drop_eq_nil_of_le (by have := HOB.out.len; omega)]; exact Bs.empty _ _ _, hW.out⟩
      · have hcp' : ¬ n = c2 := fun e => hcp e.symm
        go_wp2
        go_ret2
        rw [HE2.out]
        exact ⟨_, _, _, rfl, by omega, by simp only; exact bs_add HOB.out (by omega), hW.out⟩
end Go.Proofs.Ytmnlghbmioekcaa
