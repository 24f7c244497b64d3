/- Codes, as the page has them. -/
import Derived.Test.YtfbfbkgpcpidcaaC11
namespace Go.Proofs.Ytfbfbkgpcpidcaa
open Go.RowKit

theorem Lst.drewN' {w : World} {S : Nat → Prop} {size : Nat} {A : Option Addr} {n : Nat} {xs : List Value} (h : Lst w S size A n xs) (k : Nat) : Lst (w.drewN k) S size A n xs := h
set_option maxHeartbeats 1000000 in
theorem ints_eq (A B : Option Addr) (n c d : Nat) (ns : List Int) (S T : Nat → Prop) (w : World) (hL : Lst w S 1 A n (ns.map (Value.int .i64))) (hM : Lst w T 1 B n (ns.map (Value.int .i64))) (hl : n ≤ 100000000) :
    Calls Try.prog 10 #[.slice A n c, .slice B n d] w fun e w' => e = .returned (.bool true) ∧ Below w.heap.size w w' := by
  have hn : ns.length = n := by have := hL.len; simpa using this
  subst hn
  have HL := Lib.hid hL
  have HM := Lib.hid hM
  clear hL hM
  go_enter Try.func10, Try.ntmps10
  go_wp2
  go_loopw [5] (fun i wr => ∃ k : Nat, k ≤ ns.length ∧ i = .int .i64 (k : Nat) ∧ ∃ d, wr = w.drewN d) (fun i _ => ns.length - (intOf i).toNat)
  case atStart => exact ⟨0, Nat.zero_le _, rfl, 0, rfl⟩
  case round =>
    obtain ⟨k, hk, rfl, q, rfl⟩ := hrel
    by_cases hlt : k < ns.length
    · obtain ⟨b, off, rfl, _, _, hc⟩ := HL.out.int_at hlt
      obtain ⟨b2, off2, rfl, _, _, hc2⟩ := HM.out.int_at hlt
      generalize ns.getD k 0 = v at *
      go_wp2
      go_quiet (fail)
      go_wp2
      exact ⟨⟨k + 1, by omega, by go_num, q + nq, by first | rfl | simp⟩, by simp [intOf]; omega⟩
    · go_wp2
      go_ret
      exact ⟨rfl, (Below.refl _ _).drewN' _⟩
set_option maxHeartbeats 2000000 in
theorem codes_law (A : Option Addr) (n c : Nat) (ns : List Int) (W : World) (hL : Lst W (fun b => b < W.heap.size) 1 A n (ns.map (Value.int .i64))) (hb : Big ns) (hcap : n ≤ 9223372036854775807) :
    Calls Try.prog 3 #[.slice A n c] W fun e w' => e = .returned (.bool true) ∧ Below W.heap.size W w' := by
  have hn : ns.length = n := by have := hL.len; simpa using this
  subst hn
  have HL := Lib.hid hL
  have HBG := Lib.hid hb
  clear hL hb
  go_enter Try.func3, Try.ntmps3
  go_wp2_with fail
  refine (awake_any W).mono ?_
  rintro e w1 ⟨rfl, hb1⟩
  have HB1 := Lib.hid hb1
  clear hb1
  by_cases h4 : 400 < ns.length
  · have x4 : decide (400 < ns.length) = true := by simpa using h4
    go_wp2
    go_ret
    exact ⟨rfl, HB1.out⟩
  · have x4 : decide (400 < ns.length) = false := by simpa using h4
    have hl : ns.length ≤ 400 := by omega
    clear h4 hcap
    go_wp2_with fail
    refine (kref_any A ns.length c ns _ w1 (HL.out.below HB1.out) HBG.out (by omega)).mono ?_
    rintro e wx ⟨rfl, rfl⟩
    have HKC := Lib.hid (kind_cases ns)
    have HKD : Hid (∀ w, Below W.heap.size W w → Calls Try.prog 9 #[.slice A ns.length c] w fun e w' => e = .returned (.int .i64 (kindOf ns : Nat)) ∧ Below w.heap.size w w') := Lib.hid (fun w hB => kind_any A ns.length c ns _ w (HL.out.below hB) (fun b h => Nat.lt_of_lt_of_le h hB.size) HBG.out (by omega))
    obtain ⟨K, hK⟩ : ∃ K, kindOf ns = K := ⟨_, rfl⟩
    rw [hK] at HKD HKC ⊢
    have HK := Lib.hid hK
    clear hK
    have hN := srt15_le ns
    rcases HKC.out with ⟨hr, hs, hk4⟩ | ⟨_, E, rfl, hE⟩
    · have HR := Lib.hid hr
      have HM := Lib.hid hs
      clear hr hs
      go_wp2_with fail
      refine (codes_any A ns.length c ns _ w1 (HL.out.below HB1.out) (fun b h => Nat.lt_of_lt_of_le h HB1.out.size) HBG.out (by omega) HR.out HM.out).mono ?_
      rintro e w2 ⟨g, rfl, ho, hb2⟩
      have HW := Lib.hid (HB1.out.trans (hb2.mono HB1.out.size))
      have HO := Lib.hid ho
      clear ho hb2 HB1
      go_wp2_with fail
      refine (HKD.out w2 HW.out).mono ?_
      rintro e w3 ⟨rfl, hb3⟩
      have HW3 := Lib.hid (HW.out.trans (hb3.mono HW.out.size))
      have HO3 := Lib.hid (OwnAt.below' HO.out hb3)
      clear hb3 HO HW
      have z4 : decide (4 ≤ K) = false := by simp; omega
      go_wp2_with fail
      refine (sorted_any A ns.length c ns _ w3 (HL.out.below HW3.out) (fun b h => Nat.lt_of_lt_of_le h HW3.out.size) HBG.out (by omega)).mono ?_
      rintro e w4 ⟨g4, rfl, ho4, hb4⟩
      have HW4 := Lib.hid (HW3.out.trans (hb4.mono HW3.out.size))
      have HO4 := Lib.hid (OwnAt.below' HO3.out hb4)
      have HS4 := Lib.hid ho4.lst.and_lt
      clear hb4 HO3 HW3 ho4
      go_wp2_with fail
      refine (sref_any A ns.length c ns _ w4 (HL.out.below HW4.out) HBG.out (by omega)).mono ?_
      rintro e w5 ⟨A5, c5, rfl, ho5, hb5⟩
      have HW5 := Lib.hid (HW4.out.trans (hb5.mono HW4.out.size))
      have HO5 := Lib.hid (OwnAt.below' HO4.out hb5)
      have HS5 := Lib.hid (HS4.out.below hb5)
      have HP5 := Lib.hid (Lst.of_own ho5)
      clear hb5 HO4 HW4 ho5 HS4
      obtain ⟨N, hN'⟩ : ∃ N, (srt ns 15).length = N := ⟨_, rfl⟩
      rw [hN'] at hN HS5 HP5 ⊢
      clear hN'
      go_wp2_with fail
      refine (ints_eq _ _ N _ _ (natI (srt ns 15)) _ _ w5 HS5.out HP5.out (by omega)).mono ?_
      rintro e w6 ⟨rfl, hb6⟩
      have HW6 := Lib.hid (HW5.out.trans (hb6.mono HW5.out.size))
      have HO6 := Lib.hid (OwnAt.below' HO5.out hb6)
      clear hb6 HO5 HW5 HS5 HP5
      go_wp2_with fail
      refine (cref_any A ns.length c ns _ w6 (HL.out.below HW6.out) (fun b h => Nat.lt_of_lt_of_le h HW6.out.size) HBG.out (by omega) HR.out HM.out).mono ?_
      rintro e w7 ⟨g7, rfl, ho7, hb7⟩
      have HW7 := Lib.hid (HW6.out.trans (hb7.mono HW6.out.size))
      have HO7 := Lib.hid (OwnAt.below' HO6.out hb7)
      have HP7 := Lib.hid ho7
      clear hb7 HO6 HW6 ho7
      go_wp2
      go_loopw [7] (fun i wr => ∃ k : Nat, k ≤ ns.length ∧ i = .int .i64 (k : Nat) ∧ ∃ d, wr = w7.drewN d) (fun i _ => ns.length - (intOf i).toNat)
      case atStart => exact ⟨0, Nat.zero_le _, rfl, 0, rfl⟩
      case round =>
        obtain ⟨k, hk, rfl, q, rfl⟩ := hrel
        by_cases hlt : k < ns.length
        · have c1 := HO7.out.cell hlt
          have c2 := HP7.out.cell hlt
          generalize ((List.range ns.length).map (cdI ns)).getD k 0 = v at *
          go_wp2
          go_quiet (fail)
          go_wp2
          exact ⟨⟨k + 1, by omega, by go_num, q + nq, by first | rfl | simp⟩, by simp [intOf]; omega⟩
        · go_wp2
          go_ret
          exact ⟨rfl, HW7.out.drewN' _⟩
    · have HE := Lib.hid hE
      clear hE
      go_wp2_with fail
      refine (codes_bad A ns.length c K E ns _ w1 (HL.out.below HB1.out) (fun b h => Nat.lt_of_lt_of_le h HB1.out.size) HBG.out (by omega) HK.out HE.out).mono ?_
      rintro e w2 ⟨rfl, hb2⟩
      have HW := Lib.hid (HB1.out.trans (hb2.mono HB1.out.size))
      clear hb2 HB1
      go_wp2_with fail
      refine (HKD.out w2 HW.out).mono ?_
      rintro e w3 ⟨rfl, hb3⟩
      have HW3 := Lib.hid (HW.out.trans (hb3.mono HW.out.size))
      clear hb3 HW
      go_wp2_with fail
      refine (sorted_any A ns.length c ns _ w3 (HL.out.below HW3.out) (fun b h => Nat.lt_of_lt_of_le h HW3.out.size) HBG.out (by omega)).mono ?_
      rintro e w4 ⟨g4, rfl, ho4, hb4⟩
      have HW4 := Lib.hid (HW3.out.trans (hb4.mono HW3.out.size))
      have HS4 := Lib.hid ho4.lst.and_lt
      clear hb4 HW3 ho4
      go_wp2_with fail
      refine (sref_any A ns.length c ns _ w4 (HL.out.below HW4.out) HBG.out (by omega)).mono ?_
      rintro e w5 ⟨A5, c5, rfl, ho5, hb5⟩
      have HW5 := Lib.hid (HW4.out.trans (hb5.mono HW4.out.size))
      have HS5 := Lib.hid (HS4.out.below hb5)
      have HP5 := Lib.hid (Lst.of_own ho5)
      clear hb5 HW4 ho5 HS4
      obtain ⟨N, hN'⟩ : ∃ N, (srt ns 15).length = N := ⟨_, rfl⟩
      rw [hN'] at hN HS5 HP5 ⊢
      clear hN'
      go_wp2_with fail
      refine (ints_eq _ _ N _ _ (natI (srt ns 15)) _ _ w5 HS5.out HP5.out (by omega)).mono ?_
      rintro e w6 ⟨rfl, hb6⟩
      have HW6 := Lib.hid (HW5.out.trans (hb6.mono HW5.out.size))
      clear hb6 HW5 HS5 HP5
      rcases HE.out with ⟨rfl, rfl⟩ | ⟨rfl, rfl⟩
      · go_wp2
        go_ret
        exact ⟨rfl, HW6.out⟩
      · go_wp2
        go_ret
        exact ⟨rfl, HW6.out⟩
end Go.Proofs.Ytfbfbkgpcpidcaa
