/- RunsBack. -/
import Derived.Test.YtfoefncmfmfgeaaR6
import Derived.StillTailTactics
namespace Go.Proofs.Ytfoefncmfmfgeaa
open Go.RowKit

set_option maxHeartbeats 2000000 in
theorem back_law (A : Option Addr) (n c : Nat) (ns : List Int) (W : World) (hL : Lst W (fun b => b < W.heap.size) 1 A n (ns.map (Value.int .i64))) (hb : Big ns) (hc : n ≤ c) (hcap : n ≤ 9223372036854775807) :
    Calls Try.prog 3 #[.slice A n c] W fun e w' => e = .returned (.bool true) ∧ Below W.heap.size W w' := by
  have hn : ns.length = n := by have := hL.len; simpa using this
  subst hn
  have HL := Lib.hid hL
  have HBG := Lib.hid hb
  clear hL hb
  go_enter Try.func3, Try.ntmps3
  go_wp2_with fail
  refine (awake_any W).mono ?_
  rintro e w1 ⟨rfl, hb1⟩
  have HB1 := Lib.hid hb1
  clear hb1
  by_cases h4 : 500 < ns.length
  · have x4 : decide (500 < ns.length) = true := by simpa using h4
    go_wp2
    go_ret
    exact ⟨rfl, HB1.out⟩
  · have x4 : decide (500 < ns.length) = false := by simpa using h4
    have hl : ns.length ≤ 500 := by omega
    clear h4 hcap
    rcases ok_or ns with hok | ⟨j, hj, hbad⟩
    · have HK := Lib.hid hok
      clear hok
      go_wp2_with fail
      refine (pack_any A ns.length c ns _ w1 (HL.out.below HB1.out) (fun b h => Nat.lt_of_lt_of_le h HB1.out.size) HBG.out (by omega) hc HK.out).mono ?_
      rintro e w2 ⟨AL, m, cl, l, rfl, ho, hpk, hb2⟩
      have HW := Lib.hid (HB1.out.trans (hb2.mono HB1.out.size))
      have HP0 := Lib.hid (show Ps w2 (fun b => w1.heap.size ≤ b ∧ b < w2.heap.size) AL m l from (Lst.of_own ho).and_lt)
      have hml : l.length = m := flat2_own_len ho
      subst hml
      obtain ⟨p1, p2, p3, -⟩ := hpk
      rw [List.take_length] at p2
      have HP1 := Lib.hid p1
      have HP2 := Lib.hid p2
      have hlm : decide ((l.length : Int) ≤ (ns.length : Int)) = true := by simp; omega
      have hlm' : decide (l.length ≤ ns.length) = true := by simp; omega
      clear ho hb2 HB1 p1 p2
      go_wp2
      go_loop [5] (fun i => ∃ k : Nat, k ≤ ns.length ∧ i = .int .i64 (k : Nat)) (fun i => ns.length - (intOf i).toNat)
      case atStart => exact ⟨0, Nat.zero_le _, rfl⟩
      case round =>
        obtain ⟨k, hk, rfl⟩ := hrel
        by_cases hlt : k < ns.length
        · obtain ⟨b, off, rfl, _, _, hc1⟩ := (HL.out.below HW.out).int_at hlt
          obtain ⟨v0, v15⟩ : okN (ns.getD k 0) := by
            rw [List.getD_eq_getElem?_getD, List.getElem?_eq_getElem hlt]
            exact HK.out _ (List.getElem_mem hlt)
          generalize ns.getD k 0 = v at *
          have x0 : decide (v < 0) = false := by simp; omega
          have x1 : decide (15 < v) = false := by simp; omega
          go_wp2
          go_round
          case rel => exact ⟨k + 1, by omega, by go_num⟩
          case measure => simp [intOf]; omega
        · obtain rfl : k = ns.length := by omega
          go_wp2
          go_loopw [6, 7] (fun o i wr => ∃ (k q : Nat) (A2 : Option Addr) (c2 : Nat), k ≤ l.length ∧ i = .int .i64 (k : Nat) ∧ o = .slice A2 q c2 ∧ Hid (Lst wr (fun b => w2.heap.size ≤ b) 1 A2 q ((runL [] (l.take k)).map (Value.int .i64))) ∧ Hid (Below w2.heap.size w2 wr)) (fun _ i _ => l.length - (intOf i).toNat)
          case atStart => exact ⟨0, 0, none, 0, Nat.zero_le _, rfl, rfl, Lib.hid (Lst.empty _ _ _ _), Lib.hid (Below.refl _ _)⟩
          case round =>
            obtain ⟨k, q, A2, c2, hk, rfl, rfl, HO, HB⟩ := hrel
            by_cases hlt : k < l.length
            · obtain ⟨b, off, rfl, hbl, hbs, h1, h2⟩ := (HP0.out.below HB.out).at_ hlt
              have HT := Lib.hid (runL_take [] l k hlt)
              have HR := Lib.hid (okL_at [] l k hlt HP1.out)
              have HLE : Hid ((app (runL [] (l.take k)) (l.getD k (0, 0))).length ≤ ns.length) := Lib.hid (by
                rw [← runL_take [] l k hlt]
                have := runL_take_le [] l (k + 1)
                rw [HP2.out] at this
                exact this)
              generalize l.getD k (0, 0) = r at *
              obtain ⟨s, e⟩ := r
              simp only at h1 h2
              clear hbl hbs
              go_wp2
              go_region_law (first
                | (try go_simp
                   go_at_call 7
                   refine (radd_any A2 q c2 ns.length _ s e _ wr.drew HO.out HR.out HLE.out (by omega)).mono ?_
                   rintro e' w4 ⟨A4, c4, rfl, ho4, hb4⟩
                   obtain ⟨q4, hq4⟩ : ∃ q4, (app (runL [] (l.take k)) (s, e)).length = q4 := ⟨_, rfl⟩
                   rw [← HT.out] at hq4 ho4 ⊢
                   rw [hq4] at ho4 ⊢
                   have HB4 := Lib.hid ((HB.out.drewN' 1).trans (hb4.mono HB.out.size))
                   have HO4 : Hid (Lst w4 (fun b => w2.heap.size ≤ b) 1 A4 q4 ((runL [] (l.take (k + 1))).map (Value.int .i64))) := Lib.hid ((Lst.of_own ho4).mono fun b hb => Nat.le_trans HB.out.size hb)
                   clear ho4 hb4 hq4))
              all_goals
                go_wp2
                go_round
                case rel => exact ⟨k + 1, q4, A4, c4, by omega, by go_num, rfl, HO4, HB4⟩
                case measure => simp [intOf]; omega
            · obtain rfl : k = l.length := by omega
              rw [List.take_length, HP2.out] at HO
              have hq : q = ns.length := by have := HO.out.len; simpa using this.symm
              subst hq
              go_wp2_with fail
              refine (unpack_any AL l.length cl ns.length l ns _ wr (HP0.out.below HB.out) HP1.out HP2.out rfl (by omega) (by omega)).mono ?_
              rintro e w5 ⟨A5, c5, rfl, ho5, hb5⟩
              have HB5 := Lib.hid (HW.out.trans ((HB.out.trans (hb5.mono HB.out.size)).mono HW.out.size))
              have HX5 := Lib.hid (Lst.of_own ho5)
              have HO5 := Lib.hid (HO.out.below hb5)
              clear ho5 hb5
              go_wp2_with fail
              refine (ints_eq A2 A ns.length c2 c ns _ _ w5 HO5.out (HL.out.below HB5.out) (by omega)).mono ?_
              rintro e w6 ⟨rfl, hb6⟩
              have HB6 := Lib.hid (HB5.out.trans (hb6.mono HB5.out.size))
              have HX6 := Lib.hid (HX5.out.below hb6)
              clear hb6
              go_wp2_with fail
              refine (ints_eq A5 A ns.length c5 c ns _ _ w6 HX6.out (HL.out.below HB6.out) (by omega)).mono ?_
              rintro e w7 ⟨rfl, hb7⟩
              have HB7 := Lib.hid (HB6.out.trans (hb7.mono HB6.out.size))
              clear hb7
              go_wp2
              go_ret
              exact ⟨rfl, HB7.out⟩
    · have HK := Lib.hid hbad
      clear hbad
      go_wp2_with fail
      refine (pack_bad A ns.length c ns _ w1 (HL.out.below HB1.out) HBG.out (by omega) j hj HK.out).mono ?_
      rintro e wx ⟨rfl, rfl⟩
      go_wp2
      go_loop [5] (fun i => ∃ k : Nat, k ≤ j ∧ i = .int .i64 (k : Nat)) (fun i => ns.length - (intOf i).toNat)
      case atStart => exact ⟨0, Nat.zero_le _, rfl⟩
      case round =>
        obtain ⟨k, hk, rfl⟩ := hrel
        have hlt : k < ns.length := by omega
        obtain ⟨b, off, rfl, _, _, hc1⟩ := (HL.out.below HB1.out).int_at hlt
        obtain ⟨d1, d2⟩ := HBG.out.get k
        by_cases h0 : 0 ≤ ns.getD k 0 ∧ ns.getD k 0 ≤ 15
        · have hkj : k ≠ j := fun e => by subst e; exact HK.out h0
          generalize ns.getD k 0 = v at *
          have x0 : decide (v < 0) = false := by simp; omega
          have x1 : decide (15 < v) = false := by simp; omega
          go_wp2
          go_round
          case rel => exact ⟨k + 1, by omega, by go_num⟩
          case measure => simp [intOf]; omega
        · generalize ns.getD k 0 = v at *
          by_cases h0' : 0 ≤ v
          · have x0 : decide (v < 0) = false := by simp; omega
            have x1 : decide (15 < v) = true := by simp; omega
            clear h0
            go_wp2
            go_ret
            exact ⟨rfl, HB1.out⟩
          · have x0 : decide (v < 0) = true := by simp; omega
            clear h0
            go_wp2
            go_ret
            exact ⟨rfl, HB1.out⟩
end Go.Proofs.Ytfoefncmfmfgeaa
