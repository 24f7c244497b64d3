/- The law of Rune. -/
import Derived.Test.YtcakcgbkcnkgeaaDoorS3
import Derived.Test.YtcakcgbkcnkgeaaDoorR4
namespace Go.Proofs.YtcakcgbkcnkgeaaDoor
open Go.RowKit

theorem refR_bd (l : List UInt8) : (refR l).1 ≤ 1114111 := by
  unfold refR
  split
  · simp
  · rename_i hne
    unfold refT
    split
    · rename_i h
      obtain ⟨h1, _, h2⟩ := h
      have hn : 1 ≤ (lead (l.getD 0 0).toNat).2 := by
        unfold lead
        repeat' split
        all_goals simp
      have hl : 0 < l.length := List.length_pos_iff.2 hne
      simp only
      by_cases hv : 1114111 < valK l (lead (l.getD 0 0).toNat).1 ((lead (l.getD 0 0).toNat).2 - 1)
      · exfalso
        have hx : utfN (valK l (lead (l.getD 0 0).toNat).1 ((lead (l.getD 0 0).toNat).2 - 1)) = [] := by unfold utfN; rw [if_pos (.inl hv)]
        rw [hx] at h2
        have := congrArg List.length h2
        rw [List.length_nil, List.length_take] at this
        omega
      · omega
    · simp
theorem tn (x : Nat) (h : x < 256) : (UInt8.ofNat x).toNat = x := by
  rw [UInt8.toNat_ofNat', Nat.mod_eq_of_lt h]
theorem refR_utf (n : Nat) (l : List UInt8) (h : utfN n ≠ []) : refR (utfN n ++ l) = (n, (utfN n).length) := by
  rw [refR_N _ (by intro e; exact h (List.append_eq_nil_iff.1 e).1)]
  have h0 : ¬ (1114111 < n ∨ (55296 ≤ n ∧ n ≤ 57343)) := by
    intro e
    apply h
    unfold utfN
    rw [if_pos e]
  by_cases k1 : n < 128
  · have e : utfN n = [UInt8.ofNat n] := by unfold utfN; rw [if_neg h0, if_pos k1]
    rw [e]
    have g0 : ([UInt8.ofNat n] ++ l).getD 0 0 = UInt8.ofNat n := rfl
    rw [g0, tn n (by omega)]
    unfold refN
    rw [if_pos k1]
    rfl
  by_cases k2 : n < 2048
  · have e : utfN n = [UInt8.ofNat (192 + n / 64), UInt8.ofNat (128 + n % 64)] := by unfold utfN; rw [if_neg h0, if_neg k1, if_pos k2]
    rw [e]
    have g0 : ([UInt8.ofNat (192 + n / 64), UInt8.ofNat (128 + n % 64)] ++ l).getD 0 0 = UInt8.ofNat (192 + n / 64) := rfl
    have g1 : ([UInt8.ofNat (192 + n / 64), UInt8.ofNat (128 + n % 64)] ++ l).getD 1 0 = UInt8.ofNat (128 + n % 64) := rfl
    have gl : 2 ≤ ([UInt8.ofNat (192 + n / 64), UInt8.ofNat (128 + n % 64)] ++ l).length := by simp
    rw [g0, g1, tn _ (by omega), tn _ (by omega)]
    unfold refN
    rw [if_neg (by omega), if_neg (by omega), if_pos (by omega), if_pos ⟨gl, by omega, by omega⟩]
    refine Prod.ext ?_ rfl
    simp only
    omega
  by_cases k3 : n < 65536
  · have e : utfN n = [UInt8.ofNat (224 + n / 4096), UInt8.ofNat (128 + n / 64 % 64), UInt8.ofNat (128 + n % 64)] := by unfold utfN; rw [if_neg h0, if_neg k1, if_neg k2, if_pos k3]
    rw [e]
    have g0 : ([UInt8.ofNat (224 + n / 4096), UInt8.ofNat (128 + n / 64 % 64), UInt8.ofNat (128 + n % 64)] ++ l).getD 0 0 = UInt8.ofNat (224 + n / 4096) := rfl
    have g1 : ([UInt8.ofNat (224 + n / 4096), UInt8.ofNat (128 + n / 64 % 64), UInt8.ofNat (128 + n % 64)] ++ l).getD 1 0 = UInt8.ofNat (128 + n / 64 % 64) := rfl
    have g2 : ([UInt8.ofNat (224 + n / 4096), UInt8.ofNat (128 + n / 64 % 64), UInt8.ofNat (128 + n % 64)] ++ l).getD 2 0 = UInt8.ofNat (128 + n % 64) := rfl
    have gl : 3 ≤ ([UInt8.ofNat (224 + n / 4096), UInt8.ofNat (128 + n / 64 % 64), UInt8.ofNat (128 + n % 64)] ++ l).length := by simp
    rw [g0, g1, g2, tn _ (by omega), tn _ (by omega), tn _ (by omega)]
    unfold refN
    have ev : ((224 + n / 4096 - 224) * 64 + (128 + n / 64 % 64 - 128)) * 64 + (128 + n % 64 - 128) = n := by omega
    rw [if_neg (by omega), if_neg (by omega), if_neg (by omega), if_pos (by omega), ev, if_pos ⟨gl, by omega, by omega, by omega, by omega⟩]
    rfl
  · have e : utfN n = [UInt8.ofNat (240 + n / 262144), UInt8.ofNat (128 + n / 4096 % 64), UInt8.ofNat (128 + n / 64 % 64), UInt8.ofNat (128 + n % 64)] := by unfold utfN; rw [if_neg h0, if_neg k1, if_neg k2, if_neg k3]
    rw [e]
    have g0 : ([UInt8.ofNat (240 + n / 262144), UInt8.ofNat (128 + n / 4096 % 64), UInt8.ofNat (128 + n / 64 % 64), UInt8.ofNat (128 + n % 64)] ++ l).getD 0 0 = UInt8.ofNat (240 + n / 262144) := rfl
    have g1 : ([UInt8.ofNat (240 + n / 262144), UInt8.ofNat (128 + n / 4096 % 64), UInt8.ofNat (128 + n / 64 % 64), UInt8.ofNat (128 + n % 64)] ++ l).getD 1 0 = UInt8.ofNat (128 + n / 4096 % 64) := rfl
    have g2 : ([UInt8.ofNat (240 + n / 262144), UInt8.ofNat (128 + n / 4096 % 64), UInt8.ofNat (128 + n / 64 % 64), UInt8.ofNat (128 + n % 64)] ++ l).getD 2 0 = UInt8.ofNat (128 + n / 64 % 64) := rfl
    have g3 : ([UInt8.ofNat (240 + n / 262144), UInt8.ofNat (128 + n / 4096 % 64), UInt8.ofNat (128 + n / 64 % 64), UInt8.ofNat (128 + n % 64)] ++ l).getD 3 0 = UInt8.ofNat (128 + n % 64) := rfl
    have gl : 4 ≤ ([UInt8.ofNat (240 + n / 262144), UInt8.ofNat (128 + n / 4096 % 64), UInt8.ofNat (128 + n / 64 % 64), UInt8.ofNat (128 + n % 64)] ++ l).length := by simp
    rw [g0, g1, g2, g3, tn _ (by omega), tn _ (by omega), tn _ (by omega), tn _ (by omega)]
    unfold refN
    have ev : (((240 + n / 262144 - 240) * 64 + (128 + n / 4096 % 64 - 128)) * 64 + (128 + n / 64 % 64 - 128)) * 64 + (128 + n % 64 - 128) = n := by omega
    rw [if_neg (by omega), if_neg (by omega), if_neg (by omega), if_neg (by omega), ev, if_pos ⟨gl, by omega, by omega, by omega, by omega, by omega⟩]
    rfl
theorem utfL_nonneg {c : Int} (h : utfL c ≠ []) : ∃ n : Nat, c = n ∧ utfL c = utfN n := by
  unfold utfL at h ⊢
  by_cases h1 : c < 0
  · rw [if_pos h1] at h; exact absurd rfl h
  · exact ⟨c.toNat, by omega, by rw [if_neg h1]⟩
theorem utfN_len (n : Nat) : (utfN n).length ≤ 4 := by
  unfold utfN
  repeat' split
  all_goals simp
theorem utfL_len (c : Int) : (utfL c).length ≤ 4 := by
  unfold utfL
  split
  · simp
  · exact utfN_len _
set_option maxRecDepth 100000 in
set_option maxHeartbeats 8000000 in
theorem runes_law (s : ByteArray) (c : Int) (w : World) (hE : Env w) (hc : -2147483648 ≤ c ∧ c ≤ 2147483647) : Calls Tryd.prog 4 #[.string s, .int .i32 c] w fun e w' => e = .returned (.bool true) ∧ Below w.heap.size w w' := by
  have AW : Hid (∀ w, Env w → Calls Tryd.prog 7 #[] w fun e w' => e = .returned (.bool true) ∧ Below w.heap.size w w') := Lib.hid awake_any
  have HE := Lib.hid hE
  obtain ⟨hc1, hc2⟩ := hc
  clear hE
  by_cases ha : s.size ≤ 1000
  case neg =>
    have d1 : decide ((1000 : Int) < (s.size : Int)) = true := decide_eq_true (by omega)
    have d1' : decide (1000 < s.size) = true := decide_eq_true (by omega)
    go_enter Tryd.func4, Tryd.ntmps4
    go_wp2_with fail
    refine (AW.out w HE.out).mono ?_
    rintro e w1 ⟨rfl, hb1⟩
    go_wp2
    go_ret
    exact ⟨rfl, hb1⟩
  have d1 : decide ((1000 : Int) < (s.size : Int)) = false := decide_eq_false (by omega)
  have d1' : decide (1000 < s.size) = false := decide_eq_false (by omega)
  have hrn := fun w hE => rune_any s w hE
  have hrr := fun w => refrune_any s w
  have hbd := refR_bd s.data.toList
  have hle := refR_le s.data.toList
  have hsz : s.data.toList.length = s.size := by simp
  unfold runeV at hrn
  unfold RuneP at hrr
  obtain ⟨x, n, hr⟩ : ∃ x n, refR s.data.toList = (x, n) := ⟨_, _, rfl⟩
  rw [hr] at hrn hrr hbd hle
  simp only at hrn hrr hbd hle
  have hut := fun w => utf_any c w
  unfold UtfP at hut
  have hul := utfL_len c
  have hrz := fun w hE => rune_any (⟨(utfL c).toArray⟩ ++ s) w hE
  unfold runeV at hrz
  have hcat : ((⟨(utfL c).toArray⟩ : ByteArray) ++ s).data.toList = utfL c ++ s.data.toList := by rw [Joins.data_append]
  rw [hcat] at hrz
  obtain ⟨x2, n2, hr2⟩ : ∃ x2 n2, refR (utfL c ++ s.data.toList) = (x2, n2) := ⟨_, _, rfl⟩
  have hbd2 := refR_bd (utfL c ++ s.data.toList)
  have hle2 := refR_le (utfL c ++ s.data.toList)
  rw [List.length_append, hsz] at hle2
  rw [hr2] at hrz hbd2 hle2
  simp only at hrz hbd2 hle2
  have hcase : utfL c = [] ∨ (utfL c ≠ [] ∧ (x2 : Int) = c ∧ n2 = (utfL c).length) := by
    by_cases h : utfL c = []
    · exact .inl h
    · right
      obtain ⟨m, hm, he⟩ := utfL_nonneg h
      rw [he] at h hr2
      rw [refR_utf m _ h] at hr2
      injection hr2 with e1 e2
      exact ⟨by rw [he]; exact h, by rw [hm, e1], by rw [he, e2]⟩
  obtain ⟨U, hU⟩ : ∃ U, utfL c = U := ⟨_, rfl⟩
  rw [hU] at hut hul hrz hcase hle2
  obtain ⟨m, hm⟩ : ∃ m, U.length = m := ⟨_, rfl⟩
  rw [hm] at hut hul hcase hle2
  have hUs : (⟨U.toArray⟩ : ByteArray).size = m := by rw [← hm]; simp [ByteArray.size]
  have hm0 : (U = [] → m = 0) ∧ (U ≠ [] → 0 < m) := ⟨fun h => by rw [← hm, h]; rfl, fun h => by rw [← hm]; exact List.length_pos_iff.2 h⟩
  have RN := Lib.hid hrn
  have RR := Lib.hid hrr
  have UT := Lib.hid hut
  have RZ := Lib.hid hrz
  have HCS := Lib.hid hcase
  have HM0 := Lib.hid hm0
  rw [hsz] at hle
  clear hrn hrr hut hrz hcat hr2 hcase hr hU hm hsz hm0
  have i1 : IntKind.i64.wrap c = c := IntWalk.i64_in _ (by omega)
  have i2 : IntKind.i64.wrap (x : Int) = (x : Int) := IntWalk.i64_in _ (by omega)
  have hsm : ¬ (9223372036854775807 : Int) < (m : Int) + (s.size : Int) := by omega
  have hsm' : ¬ 9223372036854775807 < m + s.size := by omega
  have hn : (n = 0 ∧ (n == 0) = true ∧ decide (0 < n) = false) ∨ (¬ n = 0 ∧ (n == 0) = false ∧ decide (0 < n) = true) := by
    by_cases h : n = 0
    · exact .inl ⟨h, by rw [h]; rfl, by rw [h]; rfl⟩
    · exact .inr ⟨h, by simpa using h, decide_eq_true (by omega)⟩
  have HN := Lib.hid hn
  clear hn
  go_enter Tryd.func4, Tryd.ntmps4
  go_wp2_with fail
  refine (AW.out w HE.out).mono ?_
  rintro e w1 ⟨rfl, hb1⟩
  have HB1 := Lib.hid hb1
  have HE1 := Lib.hid (HE.out.below hb1)
  clear hb1
  go_wp2_with fail
  refine (RN.out _ HE1.out).mono ?_
  rintro e w2 ⟨rfl, hb2⟩
  have HB2 := Lib.hid (HB1.out.trans (hb2.mono HB1.out.size))
  have HE2 := Lib.hid (HE1.out.below hb2)
  clear hb2
  go_wp2_with fail
  refine (RR.out _).mono ?_
  rintro e w3 ⟨rfl, hb3⟩
  have HB3 := Lib.hid (HB2.out.trans (hb3.mono HB2.out.size))
  have HE3 := Lib.hid (HE2.out.below hb3)
  clear hb3
  rcases HN.out with ⟨h1, h2, h3⟩ | ⟨h1, h2, h3⟩
  all_goals
    clear h1
    rw [h2]
    rcases HCS.out with h | ⟨h, e1, e2⟩
    · have h0 := HM0.out.1 h
      clear h
      have q0 : ((m : Int) == 0) = true := by rw [h0]; rfl
      have q0' : (m == 0) = true := by rw [h0]; rfl
      clear h0
      go_wp2_with fail
      refine (UT.out _).mono ?_
      rintro e w4 ⟨A, c4, rfl, ho, hb4⟩
      have HB4 := Lib.hid (HB3.out.trans (hb4.mono HB3.out.size))
      have HE4 := Lib.hid (HE3.out.below hb4)
      have k1 := str_of c4 (Bs.of_own ho)
      clear hb4 ho
      go_wp2_with fail
      refine (RZ.out _ HE4.out).mono ?_
      rintro e w5 ⟨rfl, hb5⟩
      have HB5 := Lib.hid (HB4.out.trans (hb5.mono HB4.out.size))
      clear hb5 k1
      go_wp2
      go_ret
      exact ⟨by first | rfl | simp, HB5.out⟩
    · have h0 := HM0.out.2 h
      clear h
      have q0 : ((m : Int) == 0) = false := by rw [beq_eq_false_iff_ne]; omega
      have q0' : (m == 0) = false := by rw [beq_eq_false_iff_ne]; omega
      have q1 : (n2 == 0) = false := by rw [beq_eq_false_iff_ne]; omega
      subst e2
      rw [e1, q1] at RZ
      clear h0 e1 q1
      go_wp2_with fail
      refine (UT.out _).mono ?_
      rintro e w4 ⟨A, c4, rfl, ho, hb4⟩
      have HB4 := Lib.hid (HB3.out.trans (hb4.mono HB3.out.size))
      have HE4 := Lib.hid (HE3.out.below hb4)
      have k1 := str_of c4 (Bs.of_own ho)
      clear hb4 ho
      go_wp2_with fail
      refine (RZ.out _ HE4.out).mono ?_
      rintro e w5 ⟨rfl, hb5⟩
      have HB5 := Lib.hid (HB4.out.trans (hb5.mono HB4.out.size))
      clear hb5 k1
      go_wp2
      go_ret
      exact ⟨by first | rfl | simp, HB5.out⟩
end Go.Proofs.YtcakcgbkcnkgeaaDoor
