/- Comparing texts. -/
import Derived.Test.YtcakcgbkcnkgeaaDoorM1
import Derived.Test.YtcakcgbkcnkgeaaDoorProg
import Derived.Test.YtcakcgbkcnkgeaaDoorList
import Derived.Test.YtcakcgbkcnkgeaaDoorBlk
import Derived.Test.YtcakcgbkcnkgeaaDoorOver
import Derived.Laws.Cover1
import Derived.LoopTactic
import Derived.IntWalk
import Derived.Lib.Hide
namespace Go.Proofs.YtcakcgbkcnkgeaaDoor
open Go.RowKit

theorem isnan_any (s : ByteArray) (w : World) : Calls Tryd.prog 35 #[.string s] w fun e w' => e = .returned (.bool false) ∧ w = w' := by
  go_enter Tryd.func35, Tryd.ntmps35
  go_wp2
  go_ret
  simp
def ltS (p q : ByteArray) : Bool := Op.bytesLess p.toList q.toList
def cmpS (p q : ByteArray) : Int := if ltS p q = true then -1 else if p.toList = q.toList then 0 else 1
theorem cmpS_lt {p q : ByteArray} (h : Op.bytesLess p.toList q.toList = true) : cmpS p q = -1 := by unfold cmpS ltS; rw [if_pos h]
theorem cmpS_eq {p q : ByteArray} (h : Op.bytesLess p.toList q.toList = false) (h2 : p.toList = q.toList) : cmpS p q = 0 := by unfold cmpS ltS; rw [if_neg (by rw [h]; simp), if_pos h2]
theorem cmpS_gt {p q : ByteArray} (h : Op.bytesLess p.toList q.toList = false) (h2 : ¬ p.toList = q.toList) : cmpS p q = 1 := by unfold cmpS ltS; rw [if_neg (by rw [h]; simp), if_neg h2]
set_option maxHeartbeats 1000000 in
theorem cmp_any (p q : ByteArray) (w : World) : Calls Tryd.prog 31 #[.string p, .string q] w fun e w' => e = .returned (.int .i64 (cmpS p q)) ∧ w = w' := by
  obtain ⟨L, hL⟩ : ∃ L, Op.bytesLess p.toList q.toList = L := ⟨_, rfl⟩
  go_enter Tryd.func31, Tryd.ntmps31
  go_wp2_with fail
  refine (isnan_any p w).mono ?_
  rintro e w1 ⟨rfl, rfl⟩
  go_wp2_with fail
  refine (isnan_any q w).mono ?_
  rintro e w1 ⟨rfl, rfl⟩
  cases L with
  | true =>
    have e := cmpS_lt hL
    go_wp2
    go_ret
    exact ⟨by first | rfl | (rw [e]; rfl), rfl⟩
  | false =>
    by_cases h2 : p.toList = q.toList
    · have e := cmpS_eq hL h2
      have d : (p.toList == q.toList) = true := by simpa using h2
      clear h2
      go_wp2
      go_ret
      exact ⟨by first | rfl | (rw [e]; rfl), rfl⟩
    · have e := cmpS_gt hL h2
      have d : (p.toList == q.toList) = false := by simpa using h2
      clear h2
      go_wp2
      go_ret
      exact ⟨by first | rfl | (rw [e]; rfl), rfl⟩

/-- one element of a list of texts -/
theorem str_at {w : World} {S : Nat → Prop} {A : Option Addr} {n : Nat} {ps : List ByteArray} (h : Lst w S 1 A n (ps.map Value.string)) {i : Nat} (hi : i < n) (hp : i < ps.length) :
    ∃ b off, A = some ⟨b, off, none⟩ ∧ b < w.heap.size ∧ S b ∧ w.cell? ⟨b, off + i, none⟩ = some (.string (ps[i]'hp)) := by
  obtain ⟨b, off, e, hl, hb, hc⟩ := h.2 (by omega)
  refine ⟨b, off, e, hl, hb, hc i _ ?_⟩
  rw [List.getElem?_map, List.getElem?_eq_getElem hp]
  rfl
theorem str_len {w : World} {S : Nat → Prop} {A : Option Addr} {n : Nat} {ps : List ByteArray} (h : Lst w S 1 A n (ps.map Value.string)) : ps.length = n := by
  have := h.1; simpa using this

def cmpP : List ByteArray → List ByteArray → Int
  | [], [] => 0
  | [], _ :: _ => -1
  | _ :: _, [] => 1
  | p :: a, q :: b => if cmpS p q = 0 then cmpP a b else cmpS p q
theorem cmpP_drop {a b : List ByteArray} {k : Nat} (ha : k < a.length) (hb : k < b.length) : cmpP (a.drop k) (b.drop k) = if cmpS (a[k]'ha) (b[k]'hb) = 0 then cmpP (a.drop (k + 1)) (b.drop (k + 1)) else cmpS (a[k]'ha) (b[k]'hb) := by
  rw [List.drop_eq_getElem_cons ha, List.drop_eq_getElem_cons hb]
  rfl
theorem cmpP_left {a b : List ByteArray} {k : Nat} (ha : k < a.length) (hb : b.length ≤ k) : cmpP (a.drop k) (b.drop k) = 1 := by
  rw [List.drop_eq_getElem_cons ha, List.drop_of_length_le hb]
  rfl
theorem cmpP_right {a b : List ByteArray} {k : Nat} (ha : a.length ≤ k) (hb : k < b.length) : cmpP (a.drop k) (b.drop k) = -1 := by
  rw [List.drop_eq_getElem_cons hb, List.drop_of_length_le ha]
  rfl
theorem cmpP_end {a b : List ByteArray} {k : Nat} (ha : a.length ≤ k) (hb : b.length ≤ k) : cmpP (a.drop k) (b.drop k) = 0 := by
  rw [List.drop_of_length_le ha, List.drop_of_length_le hb]
  rfl
set_option maxHeartbeats 1000000 in
theorem scmp_any (ps qs : List ByteArray) (A B : Option Addr) (n c m d : Nat) (S T : Nat → Prop) (w : World) (hA : Lst w S 1 A n (ps.map Value.string)) (hB : Lst w T 1 B m (qs.map Value.string)) (hn : n ≤ 1000000) (hm : m ≤ 1000000) :
    Calls Tryd.prog 26 #[.slice A n c, .slice B m d] w fun e w' => e = .returned (.int .i64 (cmpP ps qs)) ∧ w = w' := by
  have HA := Lib.hid hA
  have HB := Lib.hid hB
  have la := str_len hA
  have lb := str_len hB
  have LA := Lib.hid la
  have LB := Lib.hid lb
  clear hA hB la lb
  go_enter Tryd.func26, Tryd.ntmps26
  go_wp2
  go_loop [11] (fun i => ∃ k : Nat, k ≤ n ∧ k ≤ m ∧ i = .int .i64 k ∧ cmpP (ps.drop k) (qs.drop k) = cmpP ps qs) (fun i => n - (intOf i).toNat)
  case atStart => exact ⟨0, Nat.zero_le _, Nat.zero_le _, rfl, by simp⟩
  case round =>
    obtain ⟨k, hk, hkm, rfl, hq⟩ := hrel
    have HQ := Lib.hid hq
    clear hq
    by_cases hlt : k < n
    · have h2 : (k : Int) < (n : Int) := by omega
      obtain ⟨b, off, rfl, hbl, _, hc⟩ := str_at HA.out hlt (by rw [LA.out]; exact hlt)
      obtain ⟨p, hp⟩ : ∃ p, ps[k]'(by rw [LA.out]; exact hlt) = p := ⟨_, rfl⟩
      rw [hp] at hc
      have HP := Lib.hid hp
      clear hp
      by_cases hltm : k < m
      · have h3 : (k : Int) < (m : Int) := by omega
        have d1 : decide (m ≤ k) = false := by simp; omega
        have d2 : decide ((m : Int) ≤ (k : Int)) = false := by simp; omega
        obtain ⟨b', off', rfl, hbl', _, hc'⟩ := str_at HB.out hltm (by rw [LB.out]; exact hltm)
        obtain ⟨q, hq⟩ : ∃ q, qs[k]'(by rw [LB.out]; exact hltm) = q := ⟨_, rfl⟩
        rw [hq] at hc'
        have HQQ := Lib.hid hq
        clear hq
        obtain ⟨r, hr⟩ : ∃ r, cmpS p q = r := ⟨_, rfl⟩
        have HR := Lib.hid hr
        go_wp2_with fail
        refine (cmp_any p q _).mono ?_
        rintro e w1 ⟨rfl, rfl⟩
        rw [hr]
        have hx := cmpP_drop (a := ps) (b := qs) (k := k) (by rw [LA.out]; exact hlt) (by rw [LB.out]; exact hltm)
        rw [HP.out, HQQ.out, HR.out, HQ.out] at hx
        have HX := Lib.hid hx
        clear hx hr
        by_cases h0 : r = 0
        · subst h0
          go_wp2
          refine ⟨⟨k + 1, by omega, by omega, by simp, ?_⟩, by simp only [intOf]; omega⟩
          rw [HX.out]; simp
        · have d3 : (r == 0) = false := by simpa using h0
          have HZ := Lib.hid h0
          clear h0
          go_wp2
          go_ret
          have e : cmpP ps qs = r := by rw [HX.out, if_neg HZ.out]
          exact ⟨by first | rfl | (rw [e]; rfl) | (rw [HX.out, if_neg HZ.out]; rfl), rfl⟩
      · have d1 : decide (m ≤ k) = true := by simp; omega
        have d2 : decide ((m : Int) ≤ (k : Int)) = true := by simp; omega
        have e : cmpP ps qs = 1 := by rw [← HQ.out]; exact cmpP_left (by rw [LA.out]; exact hlt) (by rw [LB.out]; omega)
        go_wp2
        go_ret
        exact ⟨by first | rfl | (rw [e]; rfl), rfl⟩
    · have h2 : ¬ (k : Int) < (n : Int) := by omega
      by_cases hltm : n < m
      · have d1 : decide (n < m) = true := by simpa using hltm
        have e : cmpP ps qs = -1 := by rw [← HQ.out]; exact cmpP_right (by rw [LA.out]; omega) (by rw [LB.out]; omega)
        go_wp2
        go_ret
        exact ⟨by first | rfl | (rw [e]; rfl), rfl⟩
      · have d1 : decide (n < m) = false := by simpa using hltm
        have e : cmpP ps qs = 0 := by rw [← HQ.out]; exact cmpP_end (by rw [LA.out]; omega) (by rw [LB.out]; omega)
        go_wp2
        go_ret
        exact ⟨by first | rfl | (rw [e]; rfl), rfl⟩
end Go.Proofs.YtcakcgbkcnkgeaaDoor
