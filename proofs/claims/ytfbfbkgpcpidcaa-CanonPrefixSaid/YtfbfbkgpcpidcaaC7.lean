/- Of which kind a set is, by the page. -/
import Derived.Test.YtfbfbkgpcpidcaaC6
namespace Go.Proofs.Ytfbfbkgpcpidcaa
open Go.RowKit

theorem sumTo_step (ns : List Int) (j q : Nat) (h : j < ns.length) (hv : ns.getD j 0 = (q : Int)) (hq : q < 16) :
    sumTo (ns.take (j + 1)) 15 = sumTo (ns.take j) 15 + (if 1 ≤ q then 2 ^ (15 - q) else 0) ∧ codesTo (ns.take (j + 1)) 15 = codesTo (ns.take j) 15 + (if 1 ≤ q then 1 else 0) := by
  simp only [sumTo, codesTo, cnt_take ns j _ h, hv]
  rcases q with _ | _ | _ | _ | _ | _ | _ | _ | _ | _ | _ | _ | _ | _ | _ | _ | q
  all_goals first
    | omega
    | (simp; omega)
theorem sumTo_take_le (ns : List Int) (j K : Nat) : sumTo (ns.take j) K ≤ sumTo ns K := by
  induction K with
  | zero => exact Int.le_refl _
  | succ K ih =>
    simp only [sumTo]
    have h1 := cnt_take_le ns j (K + 1)
    have h2 := pow_bd K
    have := Int.mul_le_mul_of_nonneg_right h1.2 (show 0 ≤ (2 : Int) ^ (15 - (K + 1)) by omega)
    omega
theorem right_false (ns : List Int) (j : Nat) (h : j < ns.length) (hv : okN (ns.getD j 0) = false) : right ns = false := by
  unfold right
  rw [List.all_eq_false]
  refine ⟨ns[j], List.getElem_mem h, ?_⟩
  rw [List.getD_eq_getElem?_getD, List.getElem?_eq_getElem h] at hv
  simpa using hv
theorem kindOf_bad (ns : List Int) (h : right ns = false) : kindOf ns = 5 := by unfold kindOf; rw [h]; rfl
set_option maxHeartbeats 1000000 in
theorem kref_any (A : Option Addr) (n c : Nat) (ns : List Int) (S : Nat → Prop) (w : World) (hL : Lst w S 1 A n (ns.map (Value.int .i64))) (hb : Big ns) (hl : n ≤ 1000000) :
    Calls Try.prog 7 #[.slice A n c] w fun e w' => e = .returned (.int .i64 (kindOf ns : Nat)) ∧ w = w' := by
  have hn : ns.length = n := by have := hL.len; simpa using this
  subst hn
  have HL := Lib.hid hL
  have HBG := Lib.hid hb
  clear hL hb
  go_enter Try.func7, Try.ntmps7
  go_wp2
  go_loop [6] (fun i => ∃ k : Nat, k ≤ ns.length ∧ i = .int .i64 (k : Nat) ∧ Hid (right (ns.take k) = true)) (fun i => ns.length - (intOf i).toNat)
  case atStart => exact ⟨0, Nat.zero_le _, rfl, Lib.hid rfl⟩
  case round =>
    obtain ⟨k, hk, rfl, HR⟩ := hrel
    by_cases hlt : k < ns.length
    · obtain ⟨b, off, rfl, hbl, _, hc⟩ := HL.out.int_at hlt
      obtain ⟨d1, d2⟩ := HBG.out.get k
      have HT := Lib.hid (right_take ns k hlt)
      have HF := Lib.hid (right_false ns k hlt)
      generalize ns.getD k 0 = v at *
      by_cases h0 : 0 ≤ v
      · have x0 : decide (v < 0) = false := by simp; omega
        by_cases h1 : v ≤ 15
        · have x1 : decide (15 < v) = false := by simp; omega
          have HO : Hid (okN v = true) := Lib.hid (by unfold okN; simp; omega)
          go_wp2
          go_round
          case rel => exact ⟨k + 1, by omega, by go_num, Lib.hid (by rw [HT.out, HR.out, HO.out]; rfl)⟩
          case measure => simp [intOf]; omega
        · have x1 : decide (15 < v) = true := by simp; omega
          have HO : Hid (kindOf ns = 5) := Lib.hid (kindOf_bad ns (HF.out (by unfold okN; simp; omega)))
          go_wp2
          go_ret
          rw [HO.out]
          exact ⟨rfl, rfl⟩
      · have x0 : decide (v < 0) = true := by simp; omega
        have HO : Hid (kindOf ns = 5) := Lib.hid (kindOf_bad ns (HF.out (by unfold okN; simp; omega)))
        go_wp2
        go_ret
        rw [HO.out]
        exact ⟨rfl, rfl⟩
    · obtain rfl : k = ns.length := by omega
      rw [List.take_of_length_le (Nat.le_refl _)] at HR
      have HK : Hid (kindOf ns = kindV (cnt ns 1) (sumTo ns 15) (codesTo ns 15)) := Lib.hid (by unfold kindOf; rw [HR.out, if_pos rfl])
      go_wp2
      go_loop [3, 4, 5, 7] (fun p m o i => ∃ (k : Nat) (pv mv ov : Int), k ≤ ns.length ∧ i = .int .i64 (k : Nat) ∧ p = .int .i64 pv ∧ m = .int .i64 mv ∧ o = .int .i64 ov ∧ Hid (sumTo (ns.take k) 15 = pv) ∧ Hid (codesTo (ns.take k) 15 = mv) ∧ Hid (cnt (ns.take k) 1 = ov)) (fun _ _ _ i => ns.length - (intOf i).toNat)
      case atStart => exact ⟨0, 0, 0, 0, Nat.zero_le _, rfl, rfl, rfl, rfl, Lib.hid (by simp [sumTo, cnt]), Lib.hid (by simp [codesTo, cnt]), Lib.hid (by simp [cnt])⟩
      case round =>
        obtain ⟨k, pv, mv, ov, hk, rfl, rfl, rfl, rfl, HP, HM, HO⟩ := hrel
        have hp := sumTo_bd (ns.take k) 15
        have hm := codesTo_bd (ns.take k) 15
        have ho := cnt_le (ns.take k) 1
        rw [HP.out] at hp
        rw [HM.out] at hm
        rw [HO.out] at ho
        have hlen := List.length_take_le k ns
        have hp0 : 0 ≤ pv := hp.1
        have hp1 : pv ≤ 500000000000 := by omega
        have hm0 : 0 ≤ mv := hm.1
        have hm1 : mv ≤ 15000000 := by omega
        have ho0 : 0 ≤ ov := ho.1
        have ho1 : ov ≤ 1000000 := by omega
        clear hp hm ho hlen
        by_cases hg : pv ≤ 32768
        · have xg : decide (pv ≤ 32768) = true := by simpa using hg
          have xg2 : decide (32768 < pv) = false := by simp; omega
          by_cases hlt : k < ns.length
          · obtain ⟨b, off, rfl, hbl, _, hc⟩ := HL.out.int_at hlt
            have hrj : okN (ns.getD k 0) = true := by
              have := HR.out
              unfold right at this
              rw [List.all_eq_true] at this
              rw [List.getD_eq_getElem?_getD, List.getElem?_eq_getElem hlt]
              exact this _ (List.getElem_mem hlt)
            have h015 : 0 ≤ ns.getD k 0 ∧ ns.getD k 0 ≤ 15 := by unfold okN at hrj; simpa using hrj
            obtain ⟨q, hq⟩ := Int.eq_ofNat_of_zero_le h015.1
            have hq16 : q < 16 := by omega
            have HSt := Lib.hid (sumTo_step ns k q hlt hq hq16)
            have HC := Lib.hid (cnt_take ns k 1 hlt)
            rw [hq] at hc HC
            clear hq h015 hrj
            by_cases h0 : 1 ≤ q
            · have x0 : decide (0 < q) = true := by simp; omega
              obtain ⟨r, hr⟩ : ∃ r : Nat, (2 : Int) ^ (15 - q) = r := ⟨2 ^ (15 - q), by simp⟩
              have hrb : (r : Int) ≤ 32768 := by have := two_pow_le (15 - q) (by omega); omega
              obtain ⟨d, hd⟩ : ∃ d : Nat, 15 - q = d := ⟨_, rfl⟩
              have hd15 : d < 15 := by omega
              rw [hd] at hr
              have y1 : IntKind.i64.wrap (15 - (q : Int)) = (d : Nat) := by rw [IntWalk.i64_in _ (by omega)]; omega
              have y2 : (15 - (q : Int)) = (d : Nat) := by omega
              have HD := Lib.hid hd
              have HRr := Lib.hid hr
              clear hd
              by_cases h1 : q = 1
              · subst h1
                go_wp2
                go_round
                case rel => exact ⟨k + 1, pv + 16384, mv + 1, ov + 1, by omega, by go_num, by go_num, by go_num, by go_num, Lib.hid (by rw [HSt.out.1, if_pos h0, HP.out]; rfl), Lib.hid (by rw [HSt.out.2, if_pos h0, HM.out]), Lib.hid (by rw [HC.out, HO.out]; rfl)⟩
                case measure => simp [intOf]; omega
              · have x1 : ((q : Int) == 1) = false := by simp; omega
                have x1' : (q == 1) = false := by simp; omega
                go_wp2
                go_round
                case rel => exact ⟨k + 1, pv + r, mv + 1, ov, by omega, by go_num, by go_num, by go_num, rfl, Lib.hid (by rw [HSt.out.1, if_pos h0, HP.out, HD.out, HRr.out]), Lib.hid (by rw [HSt.out.2, if_pos h0, HM.out]), Lib.hid (by rw [HC.out, HO.out, if_neg (by omega)]; omega)⟩
                case measure => simp [intOf]; omega
            · obtain rfl : q = 0 := by omega
              go_wp2
              go_round
              case rel => exact ⟨k + 1, pv, mv, ov, by omega, by go_num, rfl, rfl, rfl, Lib.hid (by rw [HSt.out.1, if_neg h0, HP.out]; omega), Lib.hid (by rw [HSt.out.2, if_neg h0, HM.out]; omega), Lib.hid (by rw [HC.out, HO.out, if_neg (by omega)]; omega)⟩
              case measure => simp [intOf]; omega
          · obtain rfl : k = ns.length := by omega
            rw [List.take_of_length_le (Nat.le_refl _)] at HP HM HO
            rw [HP.out, HM.out, HO.out] at HK
            unfold kindV at HK
            have g1 : ¬ 32768 < pv := by omega
            by_cases g2 : mv = 0
            · have HK2 : Hid (kindOf ns = 0) := Lib.hid (by rw [HK.out, if_neg g1, if_pos g2])
              have x2 : (mv == 0) = true := by simpa using g2
              clear HK g1 g2
              go_wp2
              go_ret
              rw [HK2.out]
              exact ⟨rfl, rfl⟩
            · have x2 : (mv == 0) = false := by simpa using g2
              by_cases g3 : pv = 32768
              · have HK2 : Hid (kindOf ns = 3) := Lib.hid (by rw [HK.out, if_neg g1, if_neg g2, if_pos g3])
                have x3 : (pv == 32768) = true := by simpa using g3
                clear HK g1 g2 g3
                go_wp2
                go_ret
                rw [HK2.out]
                exact ⟨rfl, rfl⟩
              · have x3 : (pv == 32768) = false := by simpa using g3
                by_cases g4 : mv = 1 ∧ ov = 1
                · have HK2 : Hid (kindOf ns = 1) := Lib.hid (by rw [HK.out, if_neg g1, if_neg g2, if_neg g3, if_pos g4])
                  have x4 : (mv == 1) = true := by simpa using g4.1
                  have x5 : (ov == 1) = true := by simpa using g4.2
                  clear HK g1 g2 g3 g4
                  go_wp2
                  go_ret
                  rw [HK2.out]
                  exact ⟨rfl, rfl⟩
                · have HK2 : Hid (kindOf ns = 2) := Lib.hid (by rw [HK.out, if_neg g1, if_neg g2, if_neg g3, if_neg g4])
                  by_cases g5 : mv = 1
                  · have x4 : (mv == 1) = true := by simpa using g5
                    have x5 : (ov == 1) = false := by simpa using fun e => g4 ⟨g5, e⟩
                    clear HK g1 g2 g3 g4 g5
                    go_wp2
                    go_ret
                    rw [HK2.out]
                    exact ⟨rfl, rfl⟩
                  · have x4 : (mv == 1) = false := by simpa using g5
                    clear HK g1 g2 g3 g4 g5
                    go_wp2
                    go_ret
                    rw [HK2.out]
                    exact ⟨rfl, rfl⟩
        · have xg : decide (pv ≤ 32768) = false := by simpa using hg
          have xg2 : decide (32768 < pv) = true := by simp; omega
          have HK2 : Hid (kindOf ns = 4) := Lib.hid (by
            have := sumTo_take_le ns k 15
            rw [HP.out] at this
            rw [HK.out]
            unfold kindV
            rw [if_pos (by omega)])
          clear HK
          by_cases hlt : k < ns.length
          · go_wp2
            go_ret
            rw [HK2.out]
            exact ⟨rfl, rfl⟩
          · go_wp2
            go_ret
            rw [HK2.out]
            exact ⟨rfl, rfl⟩
end Go.Proofs.Ytfbfbkgpcpidcaa
