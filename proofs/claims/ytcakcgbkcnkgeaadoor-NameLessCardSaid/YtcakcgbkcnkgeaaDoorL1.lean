/- The law of Less. -/
import Derived.Test.YtcakcgbkcnkgeaaDoorS3
namespace Go.Proofs.YtcakcgbkcnkgeaaDoor
open Go.RowKit

set_option maxRecDepth 100000 in
set_option maxHeartbeats 4000000 in
theorem less_law (a b c : ByteArray) (w : World) (hE : Env w) : Calls Tryd.prog 6 #[.string a, .string b, .string c] w fun e w' => e = .returned (.bool true) ∧ Below w.heap.size w w' := by
  have AW : Hid (∀ w, Env w → Calls Tryd.prog 7 #[] w fun e w' => e = .returned (.bool true) ∧ Below w.heap.size w w') := Lib.hid awake_any
  have HE := Lib.hid hE
  clear hE
  by_cases ha : a.size ≤ 300
  case neg =>
    have d1 : decide ((300 : Int) < (a.size : Int)) = true := by simp; omega
    have d1' : decide (300 < a.size) = true := by simp; omega
    go_enter Tryd.func6, Tryd.ntmps6
    go_wp2_with fail
    refine (AW.out w HE.out).mono ?_
    rintro e w1 ⟨rfl, hb1⟩
    have HB1 := Lib.hid hb1
    have HE1 := Lib.hid (HE.out.below hb1)
    clear hb1
    go_wp2
    go_ret
    exact ⟨rfl, HB1.out⟩
  have d1 : decide ((300 : Int) < (a.size : Int)) = false := by simp; omega
  have d1' : decide (300 < a.size) = false := by simp; omega
  by_cases hb : b.size ≤ 300
  case neg =>
    have d2 : decide ((300 : Int) < (b.size : Int)) = true := by simp; omega
    have d2' : decide (300 < b.size) = true := by simp; omega
    go_enter Tryd.func6, Tryd.ntmps6
    go_wp2_with fail
    refine (AW.out w HE.out).mono ?_
    rintro e w1 ⟨rfl, hb1⟩
    have HB1 := Lib.hid hb1
    have HE1 := Lib.hid (HE.out.below hb1)
    clear hb1
    go_wp2
    go_ret
    exact ⟨rfl, HB1.out⟩
  have d2 : decide ((300 : Int) < (b.size : Int)) = false := by simp; omega
  have d2' : decide (300 < b.size) = false := by simp; omega
  by_cases hc : c.size ≤ 300
  case neg =>
    have d3 : decide ((300 : Int) < (c.size : Int)) = true := by simp; omega
    have d3' : decide (300 < c.size) = true := by simp; omega
    go_enter Tryd.func6, Tryd.ntmps6
    go_wp2_with fail
    refine (AW.out w HE.out).mono ?_
    rintro e w1 ⟨rfl, hb1⟩
    have HB1 := Lib.hid hb1
    have HE1 := Lib.hid (HE.out.below hb1)
    clear hb1
    go_wp2
    go_ret
    exact ⟨rfl, HB1.out⟩
  have d3 : decide ((300 : Int) < (c.size : Int)) = false := by simp; omega
  have d3' : decide (300 < c.size) = false := by simp; omega
  have C1 : ∀ w, Env w → Calls Tryd.prog 20 #[.string a, .string b] w fun e w' => e = .returned (.bool (lessB a b)) ∧ Below w.heap.size w w' := fun w hE => less_any a b w (by omega) (by omega) hE
  have C2 : ∀ w, Env w → Calls Tryd.prog 20 #[.string b, .string a] w fun e w' => e = .returned (.bool (lessB b a)) ∧ Below w.heap.size w w' := fun w hE => less_any b a w (by omega) (by omega) hE
  have C3 : ∀ w, Calls Tryd.prog 21 #[.string a, .string b] w fun e w' => e = .returned (.bool (lessB a b)) ∧ Below w.heap.size w w' := fun w => refless_any a b w (by omega) (by omega)
  have C4 : ∀ w, Env w → Calls Tryd.prog 20 #[.string b, .string c] w fun e w' => e = .returned (.bool (lessB b c)) ∧ Below w.heap.size w w' := fun w hE => less_any b c w (by omega) (by omega) hE
  have C5 : ∀ w, Env w → Calls Tryd.prog 20 #[.string a, .string c] w fun e w' => e = .returned (.bool (lessB a c)) ∧ Below w.heap.size w w' := fun w hE => less_any a c w (by omega) (by omega) hE
  have f1 := lessB_asymm a b
  have f2 := lessB_total a b
  have f3 := lessB_trans a b c
  obtain ⟨x, hx⟩ : ∃ x, lessB a b = x := ⟨_, rfl⟩
  obtain ⟨y, hy⟩ : ∃ y, lessB b a = y := ⟨_, rfl⟩
  obtain ⟨u, hu⟩ : ∃ u, lessB b c = u := ⟨_, rfl⟩
  obtain ⟨v, hv⟩ : ∃ v, lessB a c = v := ⟨_, rfl⟩
  obtain ⟨d, hd⟩ : ∃ d, (a.toList == b.toList) = d := ⟨_, rfl⟩
  rw [hx, hy] at f1 f2
  rw [hd] at f2
  rw [hx, hu, hv] at f3
  rw [hx] at C1 C3
  rw [hy] at C2
  rw [hu] at C4
  rw [hv] at C5
  clear hx hy hu hv
  have C1 := Lib.hid C1
  have C2 := Lib.hid C2
  have C3 := Lib.hid C3
  have C4 := Lib.hid C4
  have C5 := Lib.hid C5
  cases x with
  | true =>
    cases y with
    | true => cases f1
    | false =>
      cases d with
      | true => cases f2
      | false =>
        clear f1 f2
        cases u with
        | true =>
          cases v with
          | false => cases f3 rfl rfl
          | true =>
            clear f3
            go_enter Tryd.func6, Tryd.ntmps6
            go_wp2_with fail
            refine (AW.out w HE.out).mono ?_
            rintro e w1 ⟨rfl, hb1⟩
            have HB1 := Lib.hid hb1
            have HE1 := Lib.hid (HE.out.below hb1)
            clear hb1
            go_wp2_with fail
            refine (C1.out _ HE1.out).mono ?_
            rintro e w2 ⟨rfl, hb2⟩
            have HB2 := Lib.hid (HB1.out.trans (hb2.mono HB1.out.size))
            have HE2 := Lib.hid (HE1.out.below hb2)
            clear hb2
            go_wp2_with fail
            refine (C2.out _ HE2.out).mono ?_
            rintro e w3 ⟨rfl, hb3⟩
            have HB3 := Lib.hid (HB2.out.trans (hb3.mono HB2.out.size))
            have HE3 := Lib.hid (HE2.out.below hb3)
            clear hb3
            go_wp2_with fail
            refine (C3.out _).mono ?_
            rintro e w4 ⟨rfl, hb4⟩
            have HB4 := Lib.hid (HB3.out.trans (hb4.mono HB3.out.size))
            have HE4 := Lib.hid (HE3.out.below hb4)
            clear hb4
            go_wp2_with fail
            refine (C4.out _ HE4.out).mono ?_
            rintro e w5 ⟨rfl, hb5⟩
            have HB5 := Lib.hid (HB4.out.trans (hb5.mono HB4.out.size))
            have HE5 := Lib.hid (HE4.out.below hb5)
            clear hb5
            go_wp2_with fail
            refine (C5.out _ HE5.out).mono ?_
            rintro e w6 ⟨rfl, hb6⟩
            have HB6 := Lib.hid (HB5.out.trans (hb6.mono HB5.out.size))
            have HE6 := Lib.hid (HE5.out.below hb6)
            clear hb6
            go_wp2
            go_ret
            exact ⟨rfl, HB6.out⟩
        | false =>
          clear f3
          go_enter Tryd.func6, Tryd.ntmps6
          go_wp2_with fail
          refine (AW.out w HE.out).mono ?_
          rintro e w1 ⟨rfl, hb1⟩
          have HB1 := Lib.hid hb1
          have HE1 := Lib.hid (HE.out.below hb1)
          clear hb1
          go_wp2_with fail
          refine (C1.out _ HE1.out).mono ?_
          rintro e w2 ⟨rfl, hb2⟩
          have HB2 := Lib.hid (HB1.out.trans (hb2.mono HB1.out.size))
          have HE2 := Lib.hid (HE1.out.below hb2)
          clear hb2
          go_wp2_with fail
          refine (C2.out _ HE2.out).mono ?_
          rintro e w3 ⟨rfl, hb3⟩
          have HB3 := Lib.hid (HB2.out.trans (hb3.mono HB2.out.size))
          have HE3 := Lib.hid (HE2.out.below hb3)
          clear hb3
          go_wp2_with fail
          refine (C3.out _).mono ?_
          rintro e w4 ⟨rfl, hb4⟩
          have HB4 := Lib.hid (HB3.out.trans (hb4.mono HB3.out.size))
          have HE4 := Lib.hid (HE3.out.below hb4)
          clear hb4
          go_wp2_with fail
          refine (C4.out _ HE4.out).mono ?_
          rintro e w5 ⟨rfl, hb5⟩
          have HB5 := Lib.hid (HB4.out.trans (hb5.mono HB4.out.size))
          have HE5 := Lib.hid (HE4.out.below hb5)
          clear hb5
          go_wp2
          go_ret
          exact ⟨rfl, HB5.out⟩
  | false =>
    clear f3
    cases y with
    | true =>
      cases d with
      | true => cases f2
      | false =>
        clear f1 f2
        go_enter Tryd.func6, Tryd.ntmps6
        go_wp2_with fail
        refine (AW.out w HE.out).mono ?_
        rintro e w1 ⟨rfl, hb1⟩
        have HB1 := Lib.hid hb1
        have HE1 := Lib.hid (HE.out.below hb1)
        clear hb1
        go_wp2_with fail
        refine (C1.out _ HE1.out).mono ?_
        rintro e w2 ⟨rfl, hb2⟩
        have HB2 := Lib.hid (HB1.out.trans (hb2.mono HB1.out.size))
        have HE2 := Lib.hid (HE1.out.below hb2)
        clear hb2
        go_wp2_with fail
        refine (C2.out _ HE2.out).mono ?_
        rintro e w3 ⟨rfl, hb3⟩
        have HB3 := Lib.hid (HB2.out.trans (hb3.mono HB2.out.size))
        have HE3 := Lib.hid (HE2.out.below hb3)
        clear hb3
        go_wp2_with fail
        refine (C3.out _).mono ?_
        rintro e w4 ⟨rfl, hb4⟩
        have HB4 := Lib.hid (HB3.out.trans (hb4.mono HB3.out.size))
        have HE4 := Lib.hid (HE3.out.below hb4)
        clear hb4
        go_wp2
        go_ret
        exact ⟨rfl, HB4.out⟩
    | false =>
      cases d with
      | false => cases f2
      | true =>
        clear f1 f2
        go_enter Tryd.func6, Tryd.ntmps6
        go_wp2_with fail
        refine (AW.out w HE.out).mono ?_
        rintro e w1 ⟨rfl, hb1⟩
        have HB1 := Lib.hid hb1
        have HE1 := Lib.hid (HE.out.below hb1)
        clear hb1
        go_wp2_with fail
        refine (C1.out _ HE1.out).mono ?_
        rintro e w2 ⟨rfl, hb2⟩
        have HB2 := Lib.hid (HB1.out.trans (hb2.mono HB1.out.size))
        have HE2 := Lib.hid (HE1.out.below hb2)
        clear hb2
        go_wp2_with fail
        refine (C2.out _ HE2.out).mono ?_
        rintro e w3 ⟨rfl, hb3⟩
        have HB3 := Lib.hid (HB2.out.trans (hb3.mono HB2.out.size))
        have HE3 := Lib.hid (HE2.out.below hb3)
        clear hb3
        go_wp2_with fail
        refine (C3.out _).mono ?_
        rintro e w4 ⟨rfl, hb4⟩
        have HB4 := Lib.hid (HB3.out.trans (hb4.mono HB3.out.size))
        have HE4 := Lib.hid (HE3.out.below hb4)
        clear hb4
        go_wp2
        go_ret
        exact ⟨rfl, HB4.out⟩
end Go.Proofs.YtcakcgbkcnkgeaaDoor
