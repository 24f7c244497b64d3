/- The law of Parts. -/
import Derived.Test.YtcakcgbkcnkgeaaDoorL2a
namespace Go.Proofs.YtcakcgbkcnkgeaaDoor
open Go.RowKit

def DirAt (ps : List ByteArray) (m k : Nat) (D : ByteArray) : Prop := D.data.toList = joinL (bytes (ps.take (min k m))) ∧ D.size ≤ 1000
theorem cat_data (a b : ByteArray) : (a ++ b).data.toList = a.data.toList ++ b.data.toList := Joins.data_append a b
set_option maxRecDepth 100000 in
set_option maxHeartbeats 8000000 in
theorem parts_law (s : ByteArray) (w : World) (hE : Env w) : Calls Tryd.prog 5 #[.string s] w fun e w' => e = .returned (.bool true) ∧ Below w.heap.size w w' := by
  have AW : Hid (∀ w, Env w → Calls Tryd.prog 7 #[] w fun e w' => e = .returned (.bool true) ∧ Below w.heap.size w w') := Lib.hid awake_any
  have HE := Lib.hid hE
  clear hE
  by_cases ha : s.size ≤ 1000
  case neg =>
    have d1 : decide ((1000 : Int) < (s.size : Int)) = true := by simp; omega
    have d1' : decide (1000 < s.size) = true := by simp; omega
    go_enter Tryd.func5, Tryd.ntmps5
    go_wp2_with fail
    refine (AW.out w HE.out).mono ?_
    rintro e w1 ⟨rfl, hb1⟩
    go_wp2
    go_ret
    exact ⟨rfl, hb1⟩
  have d1 : decide ((1000 : Int) < (s.size : Int)) = false := by simp; omega
  have d1' : decide (1000 < s.size) = false := by simp; omega
  have hra := fun w => refparts_any s w (by omega)
  have hpa := fun w hE => parts_any s w (by omega) hE
  have hba := fun w => base_any s w (by omega)
  have hda := fun w => dir_any s w (by omega)
  have hpl := parts_len s
  have hple := Lib.countB_le slash (by decide) s.size s (Nat.le_refl _)
  have hP1 := fun p hp => part_le s p hp
  have hP2 := join_le s
  have hP3 : ∀ p, parts s = [p] → _ := fun p => base_one s p
  unfold RefP at hra
  obtain ⟨ps, hps⟩ : ∃ ps, parts s = ps := ⟨_, rfl⟩
  rw [hps] at hra hpa hpl
  simp only [hps] at hP1 hP2 hP3
  have hP4 : ∀ qs, parts s = qs → ∀ (D : ByteArray) (m : Nat) (hm : m < qs.length), 0 < m → qs.length = m + 1 → D.data.toList = joinL (bytes (qs.take m)) →
      s.data.toList = D.data.toList ++ 47 :: (qs[m]'hm).data.toList ∧ baseS s = qs[m]'hm ∧ dirS s = D := by
    rintro qs rfl D m hm h0 he hD
    exact base_more s D m hm h0 he hD
  have hP4 := hP4 ps hps
  obtain ⟨n, hn⟩ : ∃ n, ps.length = n := ⟨_, rfl⟩
  rw [← hpl] at hpa
  rw [hn] at hra hpa hpl
  obtain ⟨m, hm⟩ : ∃ m, n = m + 1 := ⟨_, hpl⟩
  have hm1 : m ≤ 1000 := by omega
  have LN := Lib.hid hn
  have LM := Lib.hid hm
  have P1 := Lib.hid hP1
  have P2 := Lib.hid hP2
  have P3 := Lib.hid hP3
  have P4 := Lib.hid hP4
  have RA := Lib.hid hra
  have PA := Lib.hid hpa
  have BA := Lib.hid hba
  have DA := Lib.hid hda
  have hn1 : n ≤ 1001 := by omega
  have hn0 : 0 < n := by omega
  clear hps hn hpl hple hP1 hP2 hP3 hP4 hra hpa hba hda
  have i1 : IntKind.i64.wrap ((n : Int) - 1) = (m : Int) := by rw [IntWalk.i64_in _ (by omega)]; omega
  have i2 : (n : Int) - 1 = (m : Int) := by omega
  clear hm hP4
  go_enter Tryd.func5, Tryd.ntmps5
  go_wp2_with fail
  refine (AW.out w HE.out).mono ?_
  rintro e w1 ⟨rfl, hb1⟩
  have HB1 := Lib.hid hb1
  have HE1 := Lib.hid (HE.out.below hb1)
  clear hb1
  go_wp2_with fail
  refine (PA.out w1 HE1.out).mono ?_
  rintro e w2 ⟨rfl, hw2⟩
  have HB2 : Hid (Below w.heap.size w w2) := Lib.hid (hw2 ▸ HB1.out.alloc HB1.out.size _)
  have HL2 : Hid (Lst w2 (fun k => k = w1.heap.size) 1 (some ⟨w1.heap.size, 0, none⟩) n (ps.map Value.string)) := Lib.hid (by
    rw [hw2]
    have := Lst.new (size := 1) w1 9 (ps.map Value.string).toArray n (by simp; exact LN.out) (b := w1.heap.size) (fr := (0, 0)) rfl
    simpa using this)
  obtain ⟨g, hg⟩ : ∃ g, w1.heap.size = g := ⟨_, rfl⟩
  rw [hg] at HL2 ⊢
  clear hw2 hg
  go_wp2_with fail
  refine (RA.out w2).mono ?_
  rintro e w3 ⟨B, c, rfl, ho, hb⟩
  have HL1 : Hid (Lst w3 (fun k => k = g) 1 (some ⟨g, 0, none⟩) n (ps.map Value.string)) := Lib.hid (HL2.out.below hb)
  have HL3 : Hid (Lst w3 (fun k => w2.heap.size ≤ k) 1 B n (ps.map Value.string)) := Lib.hid (Lst.of_own ho)
  have HB3 : Hid (Below w.heap.size w w3) := Lib.hid (HB2.out.trans (hb.mono HB2.out.size))
  clear ho hb HL2
  obtain ⟨b0, off0, rfl, _, _, _⟩ := str_at HL3.out hn0 (by rw [LN.out]; exact hn0)
  go_wp2
  go_loopw [5, 6] (fun o i wr => ∃ (k dd : Nat) (D : ByteArray), k ≤ n ∧ i = .int .i64 (k : Nat) ∧ o = .string D ∧ Hid (DirAt ps m k D) ∧ wr = w3.drewN dd) (fun _ i _ => n - (intOf i).toNat)
  case atStart => exact ⟨0, 0, ByteArray.empty, Nat.zero_le _, rfl, rfl, Lib.hid ⟨by rw [Nat.zero_min]; rfl, by decide⟩, rfl⟩
  case round =>
    obtain ⟨k, dd, D, hk, rfl, rfl, HD, rfl⟩ := hrel
    by_cases hlt : k < n
    · have h2 : (k : Int) < (n : Int) := by omega
      have hkp : k < ps.length := by rw [LN.out]; exact hlt
      obtain ⟨b1, off1, hx1, _, _, hc1⟩ := str_at HL1.out hlt hkp
      injection hx1 with hx1
      injection hx1 with q1 q2 _
      subst q1 q2
      obtain ⟨b2, off2, hx2, _, _, hc2⟩ := str_at HL3.out hlt hkp
      injection hx2 with hx2
      injection hx2 with q1 q2 _
      subst q1 q2
      obtain ⟨p, hp⟩ : ∃ p, ps[k]'hkp = p := ⟨_, rfl⟩
      rw [hp] at hc1 hc2
      rw [Nat.zero_add] at hc1
      have hpz : p.size ≤ 1000 := by
        have := P1.out p (hp ▸ List.getElem_mem hkp)
        omega
      have HP := Lib.hid hp
      have hDz := HD.out.2
      clear hp
      by_cases hkm : k < m
      · have h3 : (k : Int) < (m : Int) := by omega
        by_cases h0 : k = 0
        · subst h0
          have hc2' : w3.cell? ⟨b0, off0, none⟩ = some (.string p) := hc2
          have HDE : Hid (DirAt ps m 1 (D ++ p)) := Lib.hid (by
            obtain ⟨e1, e2⟩ := HD.out
            refine ⟨?_, ?_⟩
            · rw [cat_data, e1, Nat.zero_min, show min 1 m = 1 by omega, join_first ps hkp, HP.out]
              simp [joinL, bytes]
            · rw [Nat.zero_min] at e1
              have : D.size = 0 := by rw [sz, e1]; rfl
              rw [ByteArray.size_append]; omega)
          have hsm : ¬ (9223372036854775807 : Int) < (D.size : Int) + (p.size : Int) := by omega
          have hsm' : ¬ (9223372036854775807 < D.size + p.size) := by omega
          go_wp2
          go_quiet (fail)
          go_wp2
          go_round
          case rel => exact ⟨1, dd + nq, D ++ p, by omega, by go_num, rfl, HDE, by first | rfl | simp⟩
          case measure => simp [intOf]; omega
        · have h4 : (0 : Int) < (k : Int) := by omega
          have h4' : 0 < k := by omega
          have HDE : Hid (DirAt ps m (k + 1) (D ++ ⟨#[47]⟩ ++ p)) := Lib.hid (by
            obtain ⟨e1, e2⟩ := HD.out
            have e3 : (D ++ ⟨#[47]⟩ ++ p).data.toList = joinL (bytes (ps.take (min (k + 1) m))) := by
              rw [cat_data, cat_data, e1, show min k m = k by omega, show min (k + 1) m = k + 1 by omega, join_more ps k hkp h4', HP.out]
              simp
            refine ⟨e3, ?_⟩
            rw [sz, e3]
            have := P2.out (min (k + 1) m)
            omega)
          have hsm : ¬ (9223372036854775807 : Int) < (D.size : Int) + 1 := by omega
          have hsm2 : ¬ (9223372036854775807 : Int) < (D.size : Int) + 1 + (p.size : Int) := by omega
          go_wp2
          go_quiet (fail)
          go_wp2
          go_round
          case rel => exact ⟨k + 1, dd + nq, D ++ ⟨#[47]⟩ ++ p, by omega, by go_num, rfl, HDE, by first | rfl | simp⟩
          case measure => simp [intOf]; omega
      · have h3 : ¬ (k : Int) < (m : Int) := by omega
        have HDE : Hid (DirAt ps m (k + 1) D) := Lib.hid (by
          obtain ⟨e1, e2⟩ := HD.out
          refine ⟨?_, e2⟩
          rw [e1, show min k m = m by omega, show min (k + 1) m = m by omega])
        go_wp2
        go_quiet (fail)
        go_wp2
        all_goals
          go_round
          case rel => exact ⟨k + 1, dd + nq, D, by omega, by go_num, rfl, HDE, by first | rfl | simp⟩
          case measure => simp [intOf]; omega
    · have h2 : ¬ (k : Int) < (n : Int) := by omega
      have hmn : m < n := by omega
      have hmp : m < ps.length := by rw [LN.out]; exact hmn
      obtain ⟨b2, off2, hx2, _, _, hc2⟩ := str_at HL3.out hmn hmp
      injection hx2 with hx2
      injection hx2 with q1 q2 _
      subst q1 q2
      obtain ⟨p, hp⟩ : ∃ p, ps[m]'hmp = p := ⟨_, rfl⟩
      rw [hp] at hc2
      have hpz : p.size ≤ 1000 := by
        have := P1.out p (hp ▸ List.getElem_mem hmp)
        omega
      have hDz := HD.out.2
      have hDe := HD.out.1
      rw [show min k m = m by omega] at hDe
      by_cases h0 : m = 0
      · subst h0
        have hc2' : w3.cell? ⟨b0, off0, none⟩ = some (.string p) := hc2
        have hps1 : ps = [p] := by
          have hl : ps.length = 1 := by rw [LN.out, LM.out]
          obtain ⟨x, rfl⟩ := List.length_eq_one_iff.1 hl
          rw [← hp]; rfl
        obtain ⟨e1, e2, e3⟩ := P3.out p hps1
        have hd : D = ByteArray.empty := by
          apply ByteArray.ext
          apply Array.toList_inj.1
          rw [hDe]; rfl
        subst hd e1
        rw [e2] at BA
        rw [e3] at DA
        have hn1' : n = 1 := LM.out
        clear hp hDe
        go_wp2_with fail
        refine (BA.out _).mono ?_
        rintro e w4 ⟨rfl, rfl⟩
        go_wp2_with fail
        refine (DA.out _).mono ?_
        rintro e w4 ⟨rfl, rfl⟩
        go_wp2
        go_ret
        exact ⟨by first | rfl | simp, HB3.out.drewN' _⟩
      · obtain ⟨e1, e2, e3⟩ := P4.out D m hmp (by omega) (by rw [LN.out]; exact LM.out) hDe
        rw [hp] at e1 e2
        rw [e2] at BA
        rw [e3] at DA
        have e4 : ((D ++ ⟨#[47]⟩ ++ p).toList == s.toList) = true := by
          rw [Lib.toList_data, Lib.toList_data, cat_data, cat_data, e1]
          simp
        have hsm : ¬ (9223372036854775807 : Int) < (D.size : Int) + 1 := by omega
        have hsm2 : ¬ (9223372036854775807 : Int) < (D.size : Int) + 1 + (p.size : Int) := by omega
        have hn1' : (n == 1) = false := by simp; omega
        have hn2' : decide (1 < n) = true := by simp; omega
        have hn3' : ((n : Int) == 1) = false := by simp; omega
        have hn4' : (1 : Int) < (n : Int) := by omega
        clear hp hDe e1 e2 e3
        go_wp2_with fail
        refine (BA.out _).mono ?_
        rintro e w4 ⟨rfl, rfl⟩
        go_wp2_with fail
        refine (DA.out _).mono ?_
        rintro e w4 ⟨rfl, rfl⟩
        go_wp2
        go_ret
        exact ⟨by first | rfl | simp, HB3.out.drewN' _⟩
end Go.Proofs.YtcakcgbkcnkgeaaDoor
