/- The law of Check. -/
import Derived.Test.YtcakcgbkcnkgeaaDoorS3
import Derived.Test.YtcakcgbkcnkgeaaDoorR4
namespace Go.Proofs.YtcakcgbkcnkgeaaDoor
open Go.RowKit

set_option maxRecDepth 100000 in
set_option maxHeartbeats 8000000 in
theorem checks_law (s : ByteArray) (w : World) (hE : Env w) : Calls Tryd.prog 3 #[.string s] w fun e w' => e = .returned (.bool true) ∧ Below w.heap.size w w' := by
  have AW : Hid (∀ w, Env w → Calls Tryd.prog 7 #[] w fun e w' => e = .returned (.bool true) ∧ Below w.heap.size w w') := Lib.hid awake_any
  have HE := Lib.hid hE
  clear hE
  by_cases ha : s.size ≤ 1000
  case neg =>
    have d1 : decide ((1000 : Int) < (s.size : Int)) = true := decide_eq_true (by omega)
    have d1' : decide (1000 < s.size) = true := decide_eq_true (by omega)
    go_enter Tryd.func3, Tryd.ntmps3
    go_wp2_with fail
    refine (AW.out w HE.out).mono ?_
    rintro e w1 ⟨rfl, hb1⟩
    go_wp2
    go_ret
    exact ⟨rfl, hb1⟩
  have d1 : decide ((1000 : Int) < (s.size : Int)) = false := decide_eq_false (by omega)
  have d1' : decide (1000 < s.size) = false := decide_eq_false (by omega)
  have hna := fun w hE => name_any s w hE
  have hua := fun w hE => utf8_any s w (by omega) hE
  have hru := fun w => refutf8_any s w (by omega)
  have haa := fun w => ascii_any s w (by omega)
  have hrc := fun w => refcheck_any s w
  unfold Utf8P at hru
  obtain ⟨V, hV⟩ : ∃ V, Lib.validD s.data.toList = V := ⟨_, rfl⟩
  rw [hV] at hua hru
  obtain ⟨C, hC⟩ : ∃ C, ascii s = C := ⟨_, rfl⟩
  rw [hC] at haa
  have HC := Lib.hid hC
  have hco : (nameCode s = 0 ∧ nameOk s = true) ∨ (nameCode s = 10 ∧ nameOk s = false) := by
    cases h : nameOk s with
    | true => exact .inl ⟨nameCode_ok h, rfl⟩
    | false => exact .inr ⟨nameCode_bad h, rfl⟩
  have NA := Lib.hid hna
  have UA := Lib.hid hua
  have RU := Lib.hid hru
  have AA := Lib.hid haa
  have RC := Lib.hid hrc
  have HCO := Lib.hid hco
  clear hna hua hru haa hrc hV hC hco
  go_enter Tryd.func3, Tryd.ntmps3
  go_wp2_with fail
  refine (AW.out w HE.out).mono ?_
  rintro e w1 ⟨rfl, hb1⟩
  have HB1 := Lib.hid hb1
  have HE1 := Lib.hid (HE.out.below hb1)
  clear hb1
  go_wp2
  go_loop [3, 4] (fun a i => ∃ (k : Nat) (q : Bool), k ≤ s.size ∧ i = .int .i64 k ∧ a = .bool q ∧ Hid ((s.data.toList.take k).all (fun b => decide (b.toNat ≤ 126)) = q)) (fun _ i => s.size - (intOf i).toNat)
  case atStart => exact ⟨0, true, Nat.zero_le _, rfl, rfl, Lib.hid rfl⟩
  case round =>
    obtain ⟨k, q, hk, rfl, rfl, HQ⟩ := hrel
    by_cases hlt : k < s.size
    · have h1 : (0 : Int) ≤ (k : Int) := by omega
      have h2 : (k : Int) < (s.size : Int) := by omega
      have h3 : ((k : Int)).toNat = k := by omega
      obtain ⟨b, hb⟩ : ∃ b, s[k]'hlt = b := ⟨_, rfl⟩
      have HB := Lib.hid hb
      have HT : Hid ((s.data.toList.take (k + 1)).all (fun b => decide (b.toNat ≤ 126)) = (q && decide (b.toNat ≤ 126))) := Lib.hid (by rw [take_all _ s k hlt, HQ.out, HB.out])
      cases q with
      | false =>
        go_wp2
        exact ⟨⟨k + 1, false, by omega, by simp, rfl, Lib.hid (by rw [HT.out]; rfl)⟩, by simp only [intOf]; omega⟩
      | true =>
        by_cases hc : b.toNat ≤ 126
        · have c1 : decide (((b.toNat : Nat) : Int) ≤ (126 : Int)) = true := decide_eq_true (by omega)
          have c1' : decide (b.toNat ≤ 126) = true := decide_eq_true hc
          have HT2 : Hid ((s.data.toList.take (k + 1)).all (fun b => decide (b.toNat ≤ 126)) = true) := Lib.hid (by rw [HT.out, c1']; rfl)
          go_wp2
          exact ⟨⟨k + 1, true, by omega, by simp, rfl, HT2⟩, by simp only [intOf]; omega⟩
        · have c1 : decide (((b.toNat : Nat) : Int) ≤ (126 : Int)) = false := decide_eq_false (by omega)
          have c1' : decide (b.toNat ≤ 126) = false := decide_eq_false hc
          have HT2 : Hid ((s.data.toList.take (k + 1)).all (fun b => decide (b.toNat ≤ 126)) = false) := Lib.hid (by rw [HT.out, c1']; rfl)
          go_wp2
          exact ⟨⟨k + 1, false, by omega, by simp, rfl, HT2⟩, by simp only [intOf]; omega⟩
    · have h2 : ¬ (k : Int) < (s.size : Int) := by omega
      have hq : q = C := by
        have hk' : k = s.size := by omega
        rw [← HQ.out, ← HC.out, hk', all_full]
        rfl
      subst hq
      rcases HCO.out with ⟨e1, e2⟩ | ⟨e1, e2⟩
      all_goals
        rw [e1] at NA
        rw [e2] at RC
        clear e1 e2
        go_wp2_with fail
        refine (NA.out _ HE1.out).mono ?_
        rintro e w2 ⟨rfl, hb2⟩
        have HB2 := Lib.hid (HB1.out.trans (hb2.mono HB1.out.size))
        have HE2 := Lib.hid (HE1.out.below hb2)
        clear hb2
        go_wp2_with fail
        refine (UA.out _ HE2.out).mono ?_
        rintro e w3 ⟨rfl, hb3⟩
        have HB3 := Lib.hid (HB2.out.trans (hb3.mono HB2.out.size))
        have HE3 := Lib.hid (HE2.out.below hb3)
        clear hb3
        go_wp2_with fail
        refine (RU.out _).mono ?_
        rintro e w4 ⟨rfl, hb4⟩
        have HB4 := Lib.hid (HB3.out.trans (hb4.mono HB3.out.size))
        clear hb4
        go_wp2_with fail
        refine (AA.out _).mono ?_
        rintro e w5 ⟨rfl, rfl⟩
        go_wp2_with fail
        refine (RC.out _).mono ?_
        rintro e w6 ⟨rfl, hb6⟩
        have HB6 := Lib.hid (HB4.out.trans (hb6.mono HB4.out.size))
        clear hb6
        go_wp2
        go_ret
        exact ⟨by first | rfl | simp, HB6.out⟩
end Go.Proofs.YtcakcgbkcnkgeaaDoor
