/- The page's Less. -/
import Derived.Test.YtcakcgbkcnkgeaaDoorC2
namespace Go.Proofs.YtcakcgbkcnkgeaaDoor
open Go.RowKit

theorem less_self : ∀ l : List UInt8, Op.bytesLess l l = false
  | [] => rfl
  | a :: l => by
    unfold Op.bytesLess
    rw [less_self l]
    simp
theorem cmpS_zero {p q : ByteArray} (h : p.toList = q.toList) : cmpS p q = 0 := cmpS_eq (by rw [h]; exact less_self _) h
def lessB (a b : ByteArray) : Bool := decide (cmpP (parts a) (parts b) < 0)
theorem cmpS_neg {p q : ByteArray} (h : ¬ p.toList = q.toList) : decide (cmpS p q < 0) = Op.bytesLess p.toList q.toList := by
  cases hl : Op.bytesLess p.toList q.toList with
  | true => rw [cmpS_lt hl]; rfl
  | false => rw [cmpS_gt hl h]; rfl
theorem cmpS_ne {p q : ByteArray} (h : ¬ p.toList = q.toList) : ¬ cmpS p q = 0 := by
  cases hl : Op.bytesLess p.toList q.toList with
  | true => rw [cmpS_lt hl]; decide
  | false => rw [cmpS_gt hl h]; decide
set_option maxHeartbeats 2000000 in
theorem refless_any (a b : ByteArray) (w : World) (ha : a.size ≤ 100000) (hb : b.size ≤ 100000) : Calls Tryd.prog 21 #[.string a, .string b] w fun e w' => e = .returned (.bool (lessB a b)) ∧ Below w.heap.size w w' := by
  have hna : (parts a).length ≤ 100001 := by
    rw [parts_len]; have := Lib.countB_le slash (by decide) a.size a (Nat.le_refl _); omega
  have hnb : (parts b).length ≤ 100001 := by
    rw [parts_len]; have := Lib.countB_le slash (by decide) b.size b (Nat.le_refl _); omega
  unfold lessB
  have hra := fun w => refparts_any a w (by omega)
  have hrb := fun w => refparts_any b w (by omega)
  unfold RefP at hra hrb
  obtain ⟨ps, hps⟩ : ∃ ps, parts a = ps := ⟨_, rfl⟩
  obtain ⟨qs, hqs⟩ : ∃ qs, parts b = qs := ⟨_, rfl⟩
  rw [hps] at hra hna ⊢
  rw [hqs] at hrb hnb ⊢
  clear hps hqs
  obtain ⟨n, hn⟩ : ∃ n, ps.length = n := ⟨_, rfl⟩
  obtain ⟨m, hm⟩ : ∃ m, qs.length = m := ⟨_, rfl⟩
  rw [hn] at hra hna
  rw [hm] at hrb hnb
  have LA := Lib.hid hn
  have LB := Lib.hid hm
  have RA := Lib.hid hra
  have RB := Lib.hid hrb
  clear hn hm hra hrb
  go_enter Tryd.func21, Tryd.ntmps21
  go_wp2_with fail
  refine (RA.out _).mono ?_
  rintro e w1 ⟨A, c, rfl, ho1, hb1⟩
  have HO1 := Lib.hid ho1
  have HB1 := Lib.hid hb1
  clear ho1 hb1
  go_wp2_with fail
  refine (RB.out _).mono ?_
  rintro e w2 ⟨B, d, rfl, ho2, hb2⟩
  have HA : Hid (Lst w2 (fun b => w.heap.size ≤ b) 1 A n (ps.map Value.string)) := Lib.hid ((Lst.of_own HO1.out).below hb2)
  have HB : Hid (Lst w2 (fun b => w1.heap.size ≤ b) 1 B m (qs.map Value.string)) := Lib.hid (Lst.of_own ho2)
  have HB2 : Hid (Below w.heap.size w w2) := Lib.hid (HB1.out.trans (hb2.mono HB1.out.size))
  clear ho2 hb2 HO1
  go_wp2
  go_loopw [7] (fun i wr => ∃ k dd : Nat, k ≤ n ∧ k ≤ m ∧ i = .int .i64 k ∧ cmpP (ps.drop k) (qs.drop k) = cmpP ps qs ∧ wr = w2.drewN dd) (fun i _ => n - (intOf i).toNat)
  case atStart => exact ⟨0, 0, Nat.zero_le _, Nat.zero_le _, rfl, by simp, rfl⟩
  case round =>
    obtain ⟨k, dd, hk, hkm, rfl, hq, rfl⟩ := hrel
    have HQ := Lib.hid hq
    clear hq
    by_cases hlt : k < n
    · have h2 : (k : Int) < (n : Int) := by omega
      by_cases hltm : k < m
      · have h3 : (k : Int) < (m : Int) := by omega
        obtain ⟨b, off, rfl, hbl, _, hc⟩ := str_at HA.out hlt (by rw [LA.out]; exact hlt)
        obtain ⟨p, hp⟩ : ∃ p, ps[k]'(by rw [LA.out]; exact hlt) = p := ⟨_, rfl⟩
        rw [hp] at hc
        have HP := Lib.hid hp
        obtain ⟨b', off', rfl, hbl', _, hc'⟩ := str_at HB.out hltm (by rw [LB.out]; exact hltm)
        obtain ⟨q, hq⟩ : ∃ q, qs[k]'(by rw [LB.out]; exact hltm) = q := ⟨_, rfl⟩
        rw [hq] at hc'
        have HQQ := Lib.hid hq
        clear hp hq
        have hx := cmpP_drop (a := ps) (b := qs) (k := k) (by rw [LA.out]; exact hlt) (by rw [LB.out]; exact hltm)
        rw [HP.out, HQQ.out, HQ.out] at hx
        have HX := Lib.hid hx
        clear hx
        by_cases hpq : p.toList = q.toList
        · have HZ := Lib.hid (cmpS_zero hpq)
          have d1 : (p.toList == q.toList) = true := by simpa using hpq
          clear hpq
          go_wp2
          go_quiet (fail)
          go_wp2
          go_round
          case rel => exact ⟨k + 1, dd + nq, by omega, by omega, by go_num, by rw [HX.out, HZ.out]; simp, by first | rfl | simp⟩
          case measure => simp [intOf]; omega
        · have HZ := Lib.hid (cmpS_ne hpq)
          have HY := Lib.hid (cmpS_neg hpq)
          have d1 : (p.toList == q.toList) = false := by simpa using hpq
          clear hpq
          go_wp2
          go_quiet (fail)
          go_wp2
          go_quiet (fail)
          go_wp2
          go_ret
          refine ⟨?_, ((HB2.out.drewN' _).drewN' _).drewN' _⟩
          rw [HX.out, if_neg HZ.out, HY.out]; rfl
      · have h3 : ¬ (k : Int) < (m : Int) := by omega
        have e : cmpP ps qs = 1 := by rw [← HQ.out]; exact cmpP_left (by rw [LA.out]; exact hlt) (by rw [LB.out]; omega)
        have HE := Lib.hid e
        clear e
        have d1 : decide (n < m) = false := by simp; omega
        go_wp2
        go_ret
        exact ⟨by rw [HE.out]; rfl, HB2.out.drewN' _⟩
    · have h2 : ¬ (k : Int) < (n : Int) := by omega
      by_cases hltm : n < m
      · have d1 : decide (n < m) = true := by simpa using hltm
        have e : cmpP ps qs = -1 := by rw [← HQ.out]; exact cmpP_right (by rw [LA.out]; omega) (by rw [LB.out]; omega)
        have HE := Lib.hid e
        clear e
        go_wp2
        go_ret
        exact ⟨by rw [HE.out]; rfl, HB2.out.drewN' _⟩
      · have d1 : decide (n < m) = false := by simpa using hltm
        have e : cmpP ps qs = 0 := by rw [← HQ.out]; exact cmpP_end (by rw [LA.out]; omega) (by rw [LB.out]; omega)
        have HE := Lib.hid e
        clear e
        go_wp2
        go_ret
        exact ⟨by rw [HE.out]; rfl, HB2.out.drewN' _⟩
end Go.Proofs.YtcakcgbkcnkgeaaDoor
