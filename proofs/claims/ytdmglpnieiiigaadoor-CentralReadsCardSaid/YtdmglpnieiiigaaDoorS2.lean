/- Whether an entry may have a name. -/
import Derived.Test.YtdmglpnieiiigaaDoorS1
namespace Go.Proofs.YtdmglpnieiiigaaDoor
open Go.RowKit

def badB (b : UInt8) : Bool := decide (b.toNat < 32) || (b.toNat == 127) || (b.toNat == 58) || (b.toNat == 92)
def okP (p : ByteArray) : Bool := !(p.toList == ([] : List UInt8)) && !(p.toList == ([46] : List UInt8)) && !(p.toList == ([46, 46] : List UInt8))
def nameOk (s : ByteArray) : Bool := decide (s.size ≤ 255) && Lib.validD s.data.toList && s.data.toList.all (fun b => !badB b) && (parts s).all okP
def nameCode (s : ByteArray) : Int := if nameOk s = true then 0 else 10
theorem nameCode_bad {s : ByteArray} (h : nameOk s = false) : nameCode s = 10 := by unfold nameCode; rw [h]; rfl
theorem nameCode_ok {s : ByteArray} (h : nameOk s = true) : nameCode s = 0 := by unfold nameCode; rw [h]; rfl
theorem okP_bad1 {p : ByteArray} (h : p.toList = []) : okP p = false := by unfold okP; rw [h]; rfl
theorem okP_bad2 {p : ByteArray} (h : p.toList = [46]) : okP p = false := by unfold okP; rw [h]; rfl
theorem okP_bad3 {p : ByteArray} (h : (p.toList.isEmpty = true ∨ (p.toList == [46]) = true) ∨ (p.toList == [46, 46]) = true) : okP p = false := by
  unfold okP
  rcases h with (h | h) | h
  · rw [List.isEmpty_iff] at h; rw [h]; rfl
  · rw [h]; simp
  · rw [h]; simp
theorem okP_good {p : ByteArray} (h : (p.toList.isEmpty = false ∧ (p.toList == [46]) = false) ∧ (p.toList == [46, 46]) = false) : okP p = true := by
  unfold okP
  obtain ⟨⟨h1, h2⟩, h3⟩ := h
  rw [h2, h3]
  cases hp : p.toList with
  | nil => rw [hp] at h1; cases h1
  | cons a l => rfl
theorem nameCode_part {s : ByteArray} {ps : List ByteArray} {k : Nat} {p : ByteArray} (hps : parts s = ps) (hk : k < ps.length) (hp : ps[k]'hk = p) (h : okP p = false) : nameCode s = 10 := by
  refine nameCode_bad ?_
  have : (parts s).all okP = false := by
    rw [hps, List.all_eq_false]
    exact ⟨p, by rw [← hp]; exact List.getElem_mem _, by rw [h]; simp⟩
  unfold nameOk; rw [this]; simp
theorem take_parts {ps : List ByteArray} {k : Nat} {p : ByteArray} (hk : k < ps.length) (hp : ps[k]'hk = p) (h : (ps.take k).all okP = true) (h2 : okP p = true) : (ps.take (k + 1)).all okP = true := by
  rw [List.take_succ_eq_append_getElem hk, List.all_append, h, hp]
  simp [h2]
theorem parts_len (s : ByteArray) : (parts s).length = Lib.countB s slash + 1 := Lib.splitB_all slash (by decide) 0 _ s rfl

set_option maxRecDepth 100000 in
set_option maxHeartbeats 4000000 in
theorem name_any (s : ByteArray) (w : World) (hE : Env w) :
    Calls Tryd.prog 50 #[.string s] w fun e w' => e = .returned (.int .i64 (nameCode s)) ∧ Below w.heap.size w w' := by
  by_cases hs : s.size ≤ 255
  case neg =>
    have e : nameCode s = 10 := nameCode_bad (by unfold nameOk; rw [decide_eq_false hs]; rfl)
    have d1 : decide ((255 : Int) < (s.size : Int)) = true := by simp; omega
    rw [e]
    go_enter Tryd.func50, Tryd.ntmps50
    go_wp2
    go_ret
    exact ⟨rfl, Below.refl _ _⟩
  have HS := Lib.hid hs
  have HE := Lib.hid hE
  have d1 : decide ((255 : Int) < (s.size : Int)) = false := by simp; omega
  clear hE
  go_enter Tryd.func50, Tryd.ntmps50
  go_wp2_with fail
  refine (utf8_any s w (by omega) HE.out).mono ?_
  rintro e w1 ⟨rfl, hb1⟩
  have HB1 := Lib.hid hb1
  have HE1 := Lib.hid (HE.out.below hb1)
  clear hb1
  cases hv : Lib.validD s.data.toList with
  | false =>
    have e : nameCode s = 10 := nameCode_bad (by unfold nameOk; rw [hv]; simp)
    have HX := Lib.hid e
    clear e
    go_wp2
    go_ret
    exact ⟨by rw [HX.out]; rfl, HB1.out⟩
  | true =>
  have HV := Lib.hid hv
  clear hv
  go_wp2
  go_loop [16] (fun i => ∃ k : Nat, k ≤ s.size ∧ i = .int .i64 k ∧ (s.data.toList.take k).all (fun b => !badB b) = true) (fun i => s.size - (intOf i).toNat)
  case atStart => exact ⟨0, Nat.zero_le _, rfl, by simp⟩
  case round =>
    obtain ⟨k, hk, rfl, hq⟩ := hrel
    have HQ := Lib.hid hq
    clear hq
    by_cases hlt : k < s.size
    · have h1 : (0 : Int) ≤ (k : Int) := by omega
      have h2 : (k : Int) < (s.size : Int) := by omega
      have h3 : ((k : Int)).toNat = k := by omega
      obtain ⟨b, hb⟩ : ∃ b, s[k]'hlt = b := ⟨_, rfl⟩
      have HB := Lib.hid hb
      cases hc : badB b with
      | true =>
        have e : nameCode s = 10 := nameCode_bad (by
          have : s.data.toList.all (fun b => !badB b) = false := all_not _ s k hlt (by rw [HB.out, hc]; rfl)
          unfold nameOk; rw [this]; simp)
        have HX := Lib.hid e
        clear e
        have HC := Lib.hid hc
        clear hc
        by_cases c1 : b.toNat < 32
        · have d2 : decide (((b.toNat : Nat) : Int) < (32 : Int)) = true := by simp; omega
          go_wp2
          go_ret
          exact ⟨by rw [HX.out]; rfl, HB1.out⟩
        have d2 : decide (((b.toNat : Nat) : Int) < (32 : Int)) = false := by simp; omega
        by_cases c2 : b.toNat = 127
        · have d3 : (((b.toNat : Nat) : Int) == (127 : Int)) = true := by simp; omega
          go_wp2
          go_ret
          exact ⟨by rw [HX.out]; rfl, HB1.out⟩
        have d3 : (((b.toNat : Nat) : Int) == (127 : Int)) = false := by simp; omega
        by_cases c3 : b.toNat = 58
        · have d4 : (((b.toNat : Nat) : Int) == (58 : Int)) = true := by simp; omega
          go_wp2
          go_ret
          exact ⟨by rw [HX.out]; rfl, HB1.out⟩
        have d4 : (((b.toNat : Nat) : Int) == (58 : Int)) = false := by simp; omega
        have c4 : b.toNat = 92 := by
          have := HC.out
          unfold badB at this
          simp [c1, c2, c3] at this
          exact this
        have d5 : (((b.toNat : Nat) : Int) == (92 : Int)) = true := by simp; omega
        go_wp2
        go_ret
        exact ⟨by rw [HX.out]; rfl, HB1.out⟩
      | false =>
        have HC := Lib.hid hc
        have hc' := hc
        clear hc
        unfold badB at hc'
        simp only [Bool.or_eq_false_iff, decide_eq_false_iff_not, beq_eq_false_iff_ne] at hc'
        obtain ⟨⟨⟨c1, c2⟩, c3⟩, c4⟩ := hc'
        have d2 : decide (((b.toNat : Nat) : Int) < (32 : Int)) = false := by simp; omega
        have d3 : (((b.toNat : Nat) : Int) == (127 : Int)) = false := by simp; omega
        have d4 : (((b.toNat : Nat) : Int) == (58 : Int)) = false := by simp; omega
        have d5 : (((b.toNat : Nat) : Int) == (92 : Int)) = false := by simp; omega
        go_wp2
        refine ⟨⟨k + 1, by omega, by simp, ?_⟩, by simp only [intOf]; omega⟩
        rw [take_all _ s k hlt, HQ.out, HB.out, HC.out]
        rfl
    · have h2 : ¬ (k : Int) < (s.size : Int) := by omega
      have HA : Hid (s.data.toList.all (fun b => !badB b) = true) := Lib.hid (by
        have hk' : k = s.size := by omega
        subst hk'
        rw [← all_full]; exact HQ.out)
      go_wp2_with fail
      refine (parts_any s w1 (by omega) HE1.out).mono ?_
      rintro e w2 ⟨rfl, hw2⟩
      have HB2 : Hid (Below w.heap.size w w2) := Lib.hid (hw2 ▸ HB1.out.alloc HB1.out.size _)
      have HP : Hid (Whole w2 w1.heap.size 9 ((parts s).map Value.string).toArray) := Lib.hid (hw2 ▸ Whole.new w1 9 _ rfl)
      have HN := Lib.hid (parts_len s)
      clear hw2
      obtain ⟨g, hg⟩ : ∃ g, w1.heap.size = g := ⟨_, rfl⟩
      obtain ⟨ps, hps⟩ : ∃ ps, parts s = ps := ⟨_, rfl⟩
      obtain ⟨n, hn⟩ : ∃ n, Lib.countB s slash + 1 = n := ⟨_, rfl⟩
      rw [hg, hps] at HP
      rw [hps, hn] at HN
      rw [hg, hn]
      have hn2 : n ≤ 256 := by
        have := Lib.countB_le slash (by decide) s.size s (Nat.le_refl _)
        omega
      have HPS := Lib.hid hps
      clear hps hg hn
      go_wp2
      go_loop [45] (fun i => ∃ k : Nat, k ≤ n ∧ i = .int .i64 k ∧ (ps.take k).all okP = true) (fun i => n - (intOf i).toNat)
      case atStart => exact ⟨0, Nat.zero_le _, rfl, by simp⟩
      case round =>
        obtain ⟨k, hk, rfl, hq⟩ := hrel
        have HQ := Lib.hid hq
        clear hq
        by_cases hlt : k < n
        · have h1 : (0 : Int) ≤ (k : Int) := by omega
          have h2 : (k : Int) < (n : Int) := by omega
          have h3 : ((k : Int)).toNat = k := by omega
          have hkp : k < ps.length := by rw [HN.out]; exact hlt
          have hc := HP.out.cell k
          obtain ⟨p, hp⟩ : ∃ p, ps[k]'hkp = p := ⟨_, rfl⟩
          have hc' : w2.cell? ⟨g, k, none⟩ = some (.string p) := by rw [hc]; simp [hkp, hp]
          clear hc
          have HPP := Lib.hid hp
          clear hp
          go_wp2
          all_goals first
            | (have e := nameCode_part HPS.out hkp HPP.out (okP_bad1 (by assumption))
               go_ret
               exact ⟨by rw [e]; rfl, HB2.out⟩)
            | (have e := nameCode_part HPS.out hkp HPP.out (okP_bad2 (by assumption))
               go_ret
               exact ⟨by rw [e]; rfl, HB2.out⟩)
            | (have e := nameCode_part HPS.out hkp HPP.out (okP_bad3 (by assumption))
               go_ret
               exact ⟨by rw [e]; rfl, HB2.out⟩)
            | skip
          exact ⟨⟨k + 1, by omega, by simp, take_parts hkp HPP.out HQ.out (okP_good (by assumption))⟩, by simp only [intOf]; omega⟩
        · have h2 : ¬ (k : Int) < (n : Int) := by omega
          go_wp2
          go_ret
          have e : nameCode s = 0 := by
            refine nameCode_ok ?_
            unfold nameOk
            have hk' : k = n := by omega
            have hq := HQ.out
            rw [hk', ← HN.out, List.take_length] at hq
            rw [decide_eq_true hs, HV.out, HA.out, HPS.out, hq]
            rfl
          exact ⟨by rw [e]; rfl, HB2.out⟩
end Go.Proofs.YtdmglpnieiiigaaDoor
