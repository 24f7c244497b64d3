/- Names, by the page. -/
import Derived.Test.YtdmglpnieiiigaaDoorP3
import Derived.Test.YtdmglpnieiiigaaDoorS2
namespace Go.Proofs.YtdmglpnieiiigaaDoor
open Go.RowKit

def strLen : Value → Nat
  | .string b => b.size
  | _ => 0
def Utf8P (l : List UInt8) (w : World) (e : Ending) (w' : World) : Prop := e = .returned (.bool (Lib.validD l)) ∧ Below w.heap.size w w'
set_option maxRecDepth 100000 in
set_option maxHeartbeats 4000000 in
theorem refutf8_any (s : ByteArray) (w : World) (hs : s.size ≤ 1000000) : Calls Tryd.prog 57 #[.string s] w (Utf8P s.data.toList w) := by
  obtain ⟨V, hV⟩ : ∃ V, Lib.validD s.data.toList = V := ⟨_, rfl⟩
  unfold Utf8P
  rw [hV]
  have HV := Lib.hid hV
  clear hV
  go_enter Tryd.func57, Tryd.ntmps57
  go_wp2
  go_loopw [0] (fun o wr => ∃ t : ByteArray, o = .string t ∧ t.size ≤ 1000000 ∧ Hid (Lib.validD t.data.toList = V) ∧ Hid (Below w.heap.size w wr)) (fun o _ => strLen o)
  case atStart => exact ⟨s, rfl, hs, HV, Lib.hid (Below.refl _ _)⟩
  case round =>
    obtain ⟨t, rfl, ht, HT, HW⟩ := hrel
    by_cases h0 : 0 < t.size
    · have d0 : (0 : Int) < (t.size : Int) := by omega
      have d0' : decide (0 < t.size) = true := decide_eq_true h0
      have hne : t.data.toList ≠ [] := by
        intro h
        have : t.size = t.data.toList.length := by simp
        rw [h, List.length_nil] at this
        omega
      have hle := refR_le t.data.toList
      have hvb := valid_bad t.data.toList hne
      have hvg := valid_good t.data.toList hne
      have hsz : t.data.toList.length = t.size := by simp
      rw [hsz] at hle
      obtain ⟨x, n, hr⟩ : ∃ x n, refR t.data.toList = (x, n) := ⟨_, _, rfl⟩
      have hra := fun w => refrune_any t w
      unfold RuneP at hra
      rw [hr] at hra hle hvb hvg
      simp only at hra hle hvb hvg
      have RA := Lib.hid hra
      have VB := Lib.hid hvb
      have VG := Lib.hid hvg
      clear hra hvb hvg hr hsz hne
      by_cases hn : n = 0
      · subst hn
        have e : V = false := by rw [← HT.out]; exact VB.out rfl
        have HE := Lib.hid e
        clear e
        go_wp2_with fail
        refine (RA.out _).mono ?_
        rintro e w1 ⟨rfl, hb⟩
        have HB := Lib.hid (HW.out.trans (hb.mono HW.out.size))
        clear hb
        go_wp2
        go_ret
        exact ⟨by rw [HE.out]; rfl, HB.out⟩
      · have d1 : ((n : Int) == 0) = false := by rw [beq_eq_false_iff_ne]; omega
        have d1' : (n == 0) = false := by rw [beq_eq_false_iff_ne]; omega
        have hle2 : (n : Int) ≤ (t.size : Int) := by omega
        have HN := Lib.hid hn
        clear hn
        go_wp2_with fail
        refine (RA.out _).mono ?_
        rintro e w1 ⟨rfl, hb⟩
        have HB := Lib.hid (HW.out.trans (hb.mono HW.out.size))
        clear hb
        go_wp2
        refine ⟨⟨t.extract n t.size, rfl, by rw [ByteArray.size_extract]; omega, Lib.hid ?_, HB⟩, by simp only [strLen]; rw [ByteArray.size_extract]; have := HN.out; omega⟩
        rw [Lib.extract_data, List.take_of_length_le (by simp), ← VG.out HN.out, HT.out]
    · have hz : t.size = 0 := by omega
      have d0 : ¬ (0 : Int) < (t.size : Int) := by omega
      have d0' : decide (0 < t.size) = false := decide_eq_false h0
      have hn : t.data.toList = [] := List.eq_nil_of_length_eq_zero (by have : t.size = t.data.toList.length := by simp
                                                                        omega)
      have e : V = true := by rw [← HT.out, hn]; rfl
      have HE := Lib.hid e
      clear e hn hz
      go_wp2
      go_ret
      exact ⟨by rw [HE.out]; rfl, HW.out⟩
theorem nameOk_empty {s : ByteArray} (h : s.size = 0) : nameOk s = false := by
  have hn : s.data.toList = [] := List.eq_nil_of_length_eq_zero (by have : s.size = s.data.toList.length := by simp
                                                                    omega)
  have hp : parts s = [s] := parts_miss s (fun j => by rw [hn]; simp)
  unfold nameOk
  rw [hp]
  have h2 : okP s = false := okP_bad1 (by rw [Lib.toList_data]; exact hn)
  simp [h2]
theorem nameOk_part {s : ByteArray} {ps : List ByteArray} {k : Nat} {p : ByteArray} (hps : parts s = ps) (hk : k < ps.length) (hp : ps[k]'hk = p) (h : okP p = false) : nameOk s = false := by
  have : (parts s).all okP = false := by
    rw [hps, List.all_eq_false]
    exact ⟨p, by rw [← hp]; exact List.getElem_mem _, by rw [h]; simp⟩
  unfold nameOk; rw [this]; simp
set_option maxRecDepth 100000 in
set_option maxHeartbeats 8000000 in
theorem refcheck_any (s : ByteArray) (w : World) : Calls Tryd.prog 44 #[.string s] w fun e w' => e = .returned (.bool (nameOk s)) ∧ Below w.heap.size w w' := by
  by_cases hz : s.size < 1
  · have e : nameOk s = false := nameOk_empty (by omega)
    have d1 : decide ((s.size : Int) < (1 : Int)) = true := decide_eq_true (by omega)
    have d1' : decide (s.size < 1) = true := decide_eq_true (by omega)
    rw [e]
    go_enter Tryd.func44, Tryd.ntmps44
    go_wp2
    go_ret
    exact ⟨rfl, Below.refl _ _⟩
  have d0 : decide ((s.size : Int) < (1 : Int)) = false := decide_eq_false (by omega)
  have d0' : decide (s.size < 1) = false := decide_eq_false (by omega)
  by_cases hs : s.size ≤ 255
  case neg =>
    have e : nameOk s = false := by unfold nameOk; rw [decide_eq_false hs]; rfl
    have d1 : decide ((255 : Int) < (s.size : Int)) = true := decide_eq_true (by omega)
    have d1' : decide (255 < s.size) = true := decide_eq_true (by omega)
    rw [e]
    go_enter Tryd.func44, Tryd.ntmps44
    go_wp2
    go_ret
    exact ⟨rfl, Below.refl _ _⟩
  have HS := Lib.hid hs
  have d1 : decide ((255 : Int) < (s.size : Int)) = false := decide_eq_false (by omega)
  have d1' : decide (255 < s.size) = false := decide_eq_false (by omega)
  have UA := Lib.hid (fun w => refutf8_any s w (by omega))
  unfold Utf8P at UA
  go_enter Tryd.func44, Tryd.ntmps44
  go_wp2_with fail
  refine (UA.out w).mono ?_
  rintro e w1 ⟨rfl, hb1⟩
  have HB1 := Lib.hid hb1
  clear hb1
  cases hv : Lib.validD s.data.toList with
  | false =>
    have e : nameOk s = false := by unfold nameOk; rw [hv]; simp
    have HX := Lib.hid e
    clear e
    go_wp2
    go_ret
    exact ⟨by rw [HX.out]; rfl, HB1.out⟩
  | true =>
  have HV := Lib.hid hv
  clear hv
  go_wp2
  go_loop [3] (fun i => ∃ k : Nat, k ≤ s.size ∧ i = .int .i64 k ∧ (s.data.toList.take k).all (fun b => !badB b) = true) (fun i => s.size - (intOf i).toNat)
  case atStart => exact ⟨0, Nat.zero_le _, rfl, by simp⟩
  case round =>
    obtain ⟨k, hk, rfl, hq⟩ := hrel
    have HQ := Lib.hid hq
    clear hq
    by_cases hlt : k < s.size
    · have h1 : (0 : Int) ≤ (k : Int) := by omega
      have h2 : (k : Int) < (s.size : Int) := by omega
      have h3 : ((k : Int)).toNat = k := by omega
      obtain ⟨b, hb⟩ : ∃ b, s[k]'hlt = b := ⟨_, rfl⟩
      have HB := Lib.hid hb
      cases hc : badB b with
      | true =>
        have e : nameOk s = false := by
          have : s.data.toList.all (fun b => !badB b) = false := all_not _ s k hlt (by rw [HB.out, hc]; rfl)
          unfold nameOk; rw [this]; simp
        have HX := Lib.hid e
        clear e
        have HC := Lib.hid hc
        clear hc
        by_cases c1 : b.toNat < 32
        · have d2 : decide (((b.toNat : Nat) : Int) < (32 : Int)) = true := decide_eq_true (by omega)
          go_wp2
          go_ret
          exact ⟨by rw [HX.out]; rfl, HB1.out⟩
        have d2 : decide (((b.toNat : Nat) : Int) < (32 : Int)) = false := decide_eq_false (by omega)
        by_cases c2 : b.toNat = 127
        · have d3 : (((b.toNat : Nat) : Int) == (127 : Int)) = true := by simp; omega
          go_wp2
          go_ret
          exact ⟨by rw [HX.out]; rfl, HB1.out⟩
        have d3 : (((b.toNat : Nat) : Int) == (127 : Int)) = false := by simp; omega
        by_cases c3 : b.toNat = 58
        · have d4 : (((b.toNat : Nat) : Int) == (58 : Int)) = true := by simp; omega
          go_wp2
          go_ret
          exact ⟨by rw [HX.out]; rfl, HB1.out⟩
        have d4 : (((b.toNat : Nat) : Int) == (58 : Int)) = false := by simp; omega
        have c4 : b.toNat = 92 := by
          have := HC.out
          unfold badB at this
          simp [c1, c2, c3] at this
          exact this
        have d5 : (((b.toNat : Nat) : Int) == (92 : Int)) = true := by simp; omega
        go_wp2
        go_ret
        exact ⟨by rw [HX.out]; rfl, HB1.out⟩
      | false =>
        have HC := Lib.hid hc
        have hc' := hc
        clear hc
        unfold badB at hc'
        simp only [Bool.or_eq_false_iff, decide_eq_false_iff_not, beq_eq_false_iff_ne] at hc'
        obtain ⟨⟨⟨c1, c2⟩, c3⟩, c4⟩ := hc'
        have d2 : decide (((b.toNat : Nat) : Int) < (32 : Int)) = false := decide_eq_false (by omega)
        have d3 : (((b.toNat : Nat) : Int) == (127 : Int)) = false := by simp; omega
        have d4 : (((b.toNat : Nat) : Int) == (58 : Int)) = false := by simp; omega
        have d5 : (((b.toNat : Nat) : Int) == (92 : Int)) = false := by simp; omega
        go_wp2
        refine ⟨⟨k + 1, by omega, by simp, ?_⟩, by simp only [intOf]; omega⟩
        rw [take_all _ s k hlt, HQ.out, HB.out, HC.out]
        rfl
    · have h2 : ¬ (k : Int) < (s.size : Int) := by omega
      have HA : Hid (s.data.toList.all (fun b => !badB b) = true) := Lib.hid (by
        have hk' : k = s.size := by omega
        subst hk'
        rw [← all_full]; exact HQ.out)
      have hpl := parts_len s
      have hple := Lib.countB_le slash (by decide) s.size s (Nat.le_refl _)
      have hpa := fun w => refparts_any s w (by omega)
      unfold RefP at hpa
      obtain ⟨ps, hps⟩ : ∃ ps, parts s = ps := ⟨_, rfl⟩
      rw [hps] at hpa hpl
      obtain ⟨n, hn⟩ : ∃ n, ps.length = n := ⟨_, rfl⟩
      rw [hn] at hpa hpl
      have hn2 : n ≤ 256 := by omega
      have hn0 : 0 < n := by omega
      have HN := Lib.hid hn
      have HPS := Lib.hid hps
      have PA := Lib.hid hpa
      clear hps hn hpl hple hpa
      go_wp2_with fail
      refine (PA.out w1).mono ?_
      rintro e w2 ⟨A, c, rfl, ho, hb⟩
      have HB2 : Hid (Below w.heap.size w w2) := Lib.hid (HB1.out.trans (hb.mono HB1.out.size))
      have HP : Hid (Lst w2 (fun b => w1.heap.size ≤ b) 1 A n (ps.map Value.string)) := Lib.hid (Lst.of_own ho)
      clear ho hb
      obtain ⟨b0, off0, rfl, _, _, _⟩ := str_at HP.out hn0 (by rw [HN.out]; exact hn0)
      go_wp2
      go_loop [5] (fun i => ∃ k : Nat, k ≤ n ∧ i = .int .i64 k ∧ (ps.take k).all okP = true) (fun i => n - (intOf i).toNat)
      case atStart => exact ⟨0, Nat.zero_le _, rfl, by simp⟩
      case round =>
        obtain ⟨k, hk, rfl, hq⟩ := hrel
        have HQ := Lib.hid hq
        clear hq
        by_cases hlt : k < n
        · have h1 : (0 : Int) ≤ (k : Int) := by omega
          have h2 : (k : Int) < (n : Int) := by omega
          have h3 : ((k : Int)).toNat = k := by omega
          have hkp : k < ps.length := by rw [HN.out]; exact hlt
          obtain ⟨b2, off2, hx2, _, _, hc⟩ := str_at HP.out hlt hkp
          injection hx2 with hx2
          injection hx2 with q1 q2 _
          subst q1 q2
          obtain ⟨p, hp⟩ : ∃ p, ps[k]'hkp = p := ⟨_, rfl⟩
          rw [hp] at hc
          have HPP := Lib.hid hp
          clear hp
          go_wp2
          all_goals first
            | (have e := nameOk_part HPS.out hkp HPP.out (okP_bad1 (by assumption))
               go_ret
               exact ⟨by rw [e]; rfl, HB2.out⟩)
            | (have e := nameOk_part HPS.out hkp HPP.out (okP_bad2 (by assumption))
               go_ret
               exact ⟨by rw [e]; rfl, HB2.out⟩)
            | (have e := nameOk_part HPS.out hkp HPP.out (okP_bad3 (by assumption))
               go_ret
               exact ⟨by rw [e]; rfl, HB2.out⟩)
            | skip
          exact ⟨⟨k + 1, by omega, by simp, take_parts hkp HPP.out HQ.out (okP_good (by assumption))⟩, by simp only [intOf]; omega⟩
        · have h2 : ¬ (k : Int) < (n : Int) := by omega
          go_wp2
          go_ret
          have e : nameOk s = true := by
            unfold nameOk
            have hk' : k = n := by omega
            have hq := HQ.out
            rw [hk', ← HN.out, List.take_length] at hq
            rw [decide_eq_true hs, HV.out, HA.out, HPS.out, hq]
            rfl
          exact ⟨by rw [e]; rfl, HB2.out⟩
end Go.Proofs.YtdmglpnieiiigaaDoor
