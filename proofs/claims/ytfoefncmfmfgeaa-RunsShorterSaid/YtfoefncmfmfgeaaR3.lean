/- Pack. -/
import Derived.Test.YtfoefncmfmfgeaaR2
namespace Go.Proofs.Ytfoefncmfmfgeaa
open Go.RowKit

theorem own_below {w w' : World} {base size n : Nat} {e : TypeId} {v : Value} {xs : List Value} (h : w.ownsRow base e size v n xs) (hb : Below w.heap.size w w') : w'.ownsRow base e size v n xs := by
  have hlt := h.lt
  obtain ⟨h1, h2⟩ := h
  refine ⟨h1, ?_⟩
  rcases h2 with ⟨h3, h4⟩ | ⟨g, cap, cur, hv, hb', hh, x⟩
  · exact .inl ⟨h3, h4⟩
  · subst hv
    exact .inr ⟨g, cap, cur, rfl, hb', (hb.block g (hlt g rfl).2).trans hh, x⟩
def okN (x : Int) : Prop := 0 ≤ x ∧ x ≤ 15
def okNs (ns : List Int) : Prop := ∀ x ∈ ns, okN x
def Big (ns : List Int) : Prop := ∀ x ∈ ns, -9223372036854775808 ≤ x ∧ x ≤ 9223372036854775807
theorem Big.get {ns : List Int} (h : Big ns) (k : Nat) : -9223372036854775808 ≤ ns.getD k 0 ∧ ns.getD k 0 ≤ 9223372036854775807 := by
  rcases Nat.lt_or_ge k ns.length with hk | hk
  · rw [List.getD_eq_getElem?_getD, List.getElem?_eq_getElem hk]
    exact h _ (List.getElem_mem hk)
  · rw [List.getD_eq_getElem?_getD, List.getElem?_eq_none hk]
    simp
theorem lst_drop {w : World} {S : Nat → Prop} {b off n : Nat} {ns : List Int} (h : Lst w S 1 (some ⟨b, off, none⟩) n (ns.map (Value.int .i64))) {k : Nat} (hk : k ≤ n) :
    Lst w S 1 (some ⟨b, off + k, none⟩) (n - k) ((ns.drop k).map (Value.int .i64)) := by
  have hl : ns.length = n := by have := h.len; simpa using this
  refine ⟨by simp; omega, fun h0 => ?_⟩
  obtain ⟨b', off', e, hb, hs, hc⟩ := h.2 (by omega)
  injection e with e
  injection e with e1 e2
  subst e1 e2
  refine ⟨b, off + k, rfl, hb, hs, fun i v hi => ?_⟩
  rw [List.map_drop, List.getElem?_drop] at hi
  rw [Nat.add_assoc]
  exact hc _ v hi
/-- Eleven noughts from p on. -/
def Zer (ns : List Int) (p : Nat) : Prop := p + 11 ≤ ns.length ∧ ∀ i, i < 11 → ns.getD (p + i) 0 = 0
/-- What Pack has told of the first k lengths. -/
def Pk (ns : List Int) (k : Nat) (l : List (Int × Int)) : Prop := okL [] l ∧ runL [] l = ns.take k ∧ l.length ≤ k ∧ ∀ p, p < k → Zer ns p → l.length < k
theorem Pk.zero (ns : List Int) : Pk ns 0 [] := ⟨trivial, rfl, Nat.le_refl _, fun p h => by omega⟩
theorem getD_drop (ns : List Int) (k i : Nat) : (ns.drop k).getD i 0 = ns.getD (k + i) 0 := by
  rw [List.getD_eq_getElem?_getD, List.getElem?_drop, List.getD_eq_getElem?_getD]
theorem Pk.step {ns : List Int} {k g m : Nat} {l l2 : List (Int × Int)} {v : Int} (h : Pk ns k l) (hk : k < ns.length) (hE : Eqs (ns.drop k) g) (hv : ns.getD k 0 = v) (hT : Tell v g l2) (hm : l2.length = m) (hmg : m ≤ g) (hz : v = 0 → 11 ≤ g → m < g) : Pk ns (k + g) (l ++ l2) := by
  obtain ⟨e1, e2, e3, e4⟩ := hE
  simp only [List.length_drop, getD_drop, Nat.add_zero, hv] at e2 e3 e4
  obtain ⟨q1, q2, q3, q4⟩ := h
  refine ⟨(okL_append _ _ _).2 ⟨q1, (hT _).1⟩, ?_, by rw [List.length_append]; omega, fun p hp hzr => ?_⟩
  · rw [runL_append, (hT _).2, q2]
    apply List.ext_getElem
    · simp; omega
    · intro i h1 h2
      simp only [List.length_take] at h2
      by_cases hi : i < k
      · rw [List.getElem_append_left (by simp; omega), List.getElem_take, List.getElem_take]
      · rw [List.getElem_append_right (by simp; omega), List.getElem_replicate, List.getElem_take]
        have := e3 (i - k) (by omega)
        rw [show k + (i - k) = i by omega, List.getD_eq_getElem?_getD, List.getElem?_eq_getElem (by omega)] at this
        exact this.symm
  · rw [List.length_append]
    by_cases hpk : p < k
    · have := q4 p hpk hzr
      omega
    · have v0 : v = 0 := by
        have a1 := e3 (p - k) (by omega)
        rw [show k + (p - k) = p by omega] at a1
        have a2 := hzr.2 0 (by omega)
        rw [Nat.add_zero] at a2
        rw [← a1, a2]
      have hg : p + 11 ≤ k + g := by
        rcases Nat.lt_or_ge (k + g) (p + 11) with hlt | hge
        · exfalso
          have hz1 := hzr.1
          have a1 := e4 (by omega)
          have a2 := hzr.2 (k + g - p) (by omega)
          rw [show p + (k + g - p) = k + g by omega] at a2
          exact a1 (by rw [a2, v0])
        · exact hge
      have := hz v0 (by omega)
      omega
def PkP (ns : List Int) (w : World) (e : Ending) (w' : World) : Prop :=
  ∃ A m c l, e = .returned (.tuple #[.slice A m c, .int .i64 0]) ∧ w'.ownsRow w.heap.size 31 2 (.slice A m c) m (flat2 l) ∧ Pk ns ns.length l ∧ Below w.heap.size w w'
theorem flat2_own_len {w : World} {base m c : Nat} {A : Option Addr} {l : List (Int × Int)} (h : w.ownsRow base 31 2 (.slice A m c) m (flat2 l)) : l.length = m := by
  have := h.1
  rw [flat2_len] at this
  omega
set_option maxHeartbeats 2000000 in
theorem pack_any (A : Option Addr) (n c : Nat) (ns : List Int) (S : Nat → Prop) (w : World) (hL : Lst w S 1 A n (ns.map (Value.int .i64))) (hs : ∀ b, S b → b < w.heap.size) (hb : Big ns) (hl : n ≤ 1000000) (hc : n ≤ c) (hok : okNs ns) :
    Calls Try.prog 6 #[.slice A n c] w (PkP ns w) := by
  obtain ⟨i0, hi, hz0, hz1, hz2⟩ := info_parts info31
  simp only at hz0 hz1 hz2
  have hn : ns.length = n := by have := hL.len; simpa using this
  subst hn
  have HL := Lib.hid hL
  have HS := Lib.hid hs
  have HBG := Lib.hid hb
  have HK := Lib.hid hok
  clear hL hs hb hok
  go_enter Try.func6, Try.ntmps6
  go_wp2
  go_loop [11] (fun i => ∃ k : Nat, k ≤ ns.length ∧ i = .int .i64 (k : Nat)) (fun i => ns.length - (intOf i).toNat)
  case atStart => exact ⟨0, Nat.zero_le _, rfl⟩
  case round =>
    obtain ⟨k, hk, rfl⟩ := hrel
    by_cases hlt : k < ns.length
    · obtain ⟨b, off, rfl, _, _, hc1⟩ := HL.out.int_at hlt
      obtain ⟨v0, v15⟩ : okN (ns.getD k 0) := by
        rw [List.getD_eq_getElem?_getD, List.getElem?_eq_getElem hlt]
        exact HK.out _ (List.getElem_mem hlt)
      generalize ns.getD k 0 = v at *
      have x0 : decide (v < 0) = false := by simp; omega
      have x1 : decide (15 < v) = false := by simp; omega
      go_wp2
      go_round
      case rel => exact ⟨k + 1, by omega, by go_num⟩
      case measure => simp [intOf]; omega
    · obtain rfl : k = ns.length := by omega
      go_wp2
      go_loopw [6, 7] (fun o i wr => ∃ (k m : Nat) (A2 : Option Addr) (c2 : Nat) (l : List (Int × Int)), k ≤ ns.length ∧ i = .int .i64 (k : Nat) ∧ o = .slice A2 m c2 ∧ Hid (wr.ownsRow w.heap.size 31 2 (.slice A2 m c2) m (flat2 l)) ∧ Hid (Pk ns k l) ∧ Hid (Below w.heap.size w wr)) (fun _ i _ => ns.length - (intOf i).toNat)
      case atStart => exact ⟨0, 0, none, 0, [], Nat.zero_le _, rfl, rfl, Lib.hid (by simp [World.ownsRow, flat2]), Lib.hid (Pk.zero ns), Lib.hid (Below.refl _ _)⟩
      case round =>
        obtain ⟨k, m, A2, c2, l, hk, rfl, rfl, HO, HP, HW⟩ := hrel
        by_cases hlt : k < ns.length
        · have hLw := HL.out.below HW.out
          obtain ⟨b, off, rfl, hbl, _, hc1⟩ := hLw.int_at hlt
          have HD := Lib.hid (lst_drop hLw (Nat.le_of_lt hlt))
          have hml : m ≤ k := by have := flat2_own_len HO.out; have := HP.out.2.2.1; omega
          have hck : (c == k) = false := by simp; omega
          have hck2 : ¬ c = k := by omega
          have hkn : k ≤ c := by omega
          clear hLw
          go_wp2_with fail
          refine (equal_any _ (ns.length - k) _ (ns.drop k) _ wr HD.out (by omega) (by omega)).mono ?_
          rintro e w1 ⟨g, rfl, hE, hb1⟩
          have HE := Lib.hid hE
          have hgl : k + g ≤ ns.length := by have := hE.2.1; simp at this; omega
          have hg1 : 1 ≤ g := hE.1
          have HW1 := Lib.hid (HW.out.trans (hb1.mono HW.out.size))
          have HO1 := Lib.hid (own_below HO.out hb1)
          have hc2 : w1.cell? ⟨b, off + k, none⟩ = some (.int .i64 (ns.getD k 0)) := (hb1.cell (p := ⟨b, off + k, none⟩) hbl).trans hc1
          obtain ⟨v0, v15⟩ : okN (ns.getD k 0) := by
            rw [List.getD_eq_getElem?_getD, List.getElem?_eq_getElem hlt]
            exact HK.out _ (List.getElem_mem hlt)
          obtain ⟨v, hv⟩ : ∃ v, ns.getD k 0 = v := ⟨_, rfl⟩
          rw [hv] at hc2 v0 v15
          have HV := Lib.hid hv
          clear hE hb1 hc1 hv HD
          by_cases hv0 : v = 0
          · subst hv0
            go_wp2_with fail
            refine (zeros_any g w1 (by omega)).mono ?_
            rintro e w2 ⟨A3, m3, c3, l3, rfl, ho3, hT3, hm3, hz3, hb3⟩
            have HO2 := Lib.hid (own_below HO1.out hb3)
            have HW2 := Lib.hid (HW1.out.trans (hb3.mono HW1.out.size))
            have HP3 := Lib.hid (HP.out.step hlt HE.out HV.out hT3 (flat2_own_len ho3) hm3 hz3)
            have HO3 := Lib.hid ho3
            clear ho3 hT3 hz3 hb3
            go_wp2_with (at_builtin; refine wpList_append_list _ rfl (.tmp 35) (.tmp 37) 24 rfl w.heap.size 31 i0 (.agg #[.int .i64 0, .int .i64 0]) 2 16 Try.underlying24 hi hz0 hz1 hz2 rfl (by decide) _ m _ rfl HO2.out _ A3 m3 c3 _ rfl (Lst.of_own HO3.out) (oneCell_flat2 _) (by unfold maxLen; omega) (by omega) HW2.out.size ?_)
            intro A4 c4 x4 hown4 hgrow4 hat4
            have HO4 : Hid (x4.ownsRow w.heap.size 31 2 (.slice A4 (m + m3) c4) (m + m3) (flat2 (l ++ l3))) := by
              rw [flat2_append]
              exact Lib.hid hown4
            have HW4 := Lib.hid (HW2.out.grown hgrow4 HW2.out.size (fun g e => (HO2.out.lt g e).1))
            clear hown4 hgrow4 hat4
            go_wp2
            go_round
            case rel => exact ⟨k + g, m + m3, A4, c4, l ++ l3, hgl, by go_num, rfl, HO4, HP3, HW4⟩
            case measure => simp [intOf]; omega
          · have x0 : (v == 0) = false := by simpa using hv0
            have hf : Fac v := ⟨by omega, v15⟩
            have HF := Lib.hid hf
            clear hf hv0
            go_wp2_with fail
            refine (repeated_any v g w1 (by omega) hg1 HF.out).mono ?_
            rintro e w2 ⟨A3, m3, c3, l3, rfl, ho3, hT3, hm3, hz3, hb3⟩
            have HO2 := Lib.hid (own_below HO1.out hb3)
            have HW2 := Lib.hid (HW1.out.trans (hb3.mono HW1.out.size))
            have HP3 := Lib.hid (HP.out.step hlt HE.out HV.out hT3 (flat2_own_len ho3) hm3 hz3)
            have HO3 := Lib.hid ho3
            clear ho3 hT3 hz3 hb3
            go_wp2_with (at_builtin; refine wpList_append_list _ rfl (.tmp 39) (.tmp 45) 24 rfl w.heap.size 31 i0 (.agg #[.int .i64 0, .int .i64 0]) 2 16 Try.underlying24 hi hz0 hz1 hz2 rfl (by decide) _ m _ rfl HO2.out _ A3 m3 c3 _ rfl (Lst.of_own HO3.out) (oneCell_flat2 _) (by unfold maxLen; omega) (by omega) HW2.out.size ?_)
            intro A4 c4 x4 hown4 hgrow4 hat4
            have HO4 : Hid (x4.ownsRow w.heap.size 31 2 (.slice A4 (m + m3) c4) (m + m3) (flat2 (l ++ l3))) := by
              rw [flat2_append]
              exact Lib.hid hown4
            have HW4 := Lib.hid (HW2.out.grown hgrow4 HW2.out.size (fun g e => (HO2.out.lt g e).1))
            clear hown4 hgrow4 hat4
            go_wp2
            go_round
            case rel => exact ⟨k + g, m + m3, A4, c4, l ++ l3, hgl, by go_num, rfl, HO4, HP3, HW4⟩
            case measure => simp [intOf]; omega
        · obtain rfl : k = ns.length := by omega
          go_wp2
          go_ret2
          exact ⟨A2, m, c2, l, rfl, HO.out, HP.out, HW.out⟩
set_option maxHeartbeats 1000000 in
theorem pack_bad (A : Option Addr) (n c : Nat) (ns : List Int) (S : Nat → Prop) (w : World) (hL : Lst w S 1 A n (ns.map (Value.int .i64))) (hb : Big ns) (hl : n ≤ 1000000) (j : Nat) (hj : j < n) (hbad : ¬ okN (ns.getD j 0)) :
    Calls Try.prog 6 #[.slice A n c] w fun e w' => e = .returned (.tuple #[.slice none 0 0, .int .i64 23]) ∧ w = w' := by
  have hn : ns.length = n := by have := hL.len; simpa using this
  subst hn
  have HL := Lib.hid hL
  have HBG := Lib.hid hb
  have HK := Lib.hid hbad
  clear hL hb hbad
  go_enter Try.func6, Try.ntmps6
  go_wp2
  go_loop [11] (fun i => ∃ k : Nat, k ≤ j ∧ i = .int .i64 (k : Nat)) (fun i => ns.length - (intOf i).toNat)
  case atStart => exact ⟨0, Nat.zero_le _, rfl⟩
  case round =>
    obtain ⟨k, hk, rfl⟩ := hrel
    have hlt : k < ns.length := by omega
    obtain ⟨b, off, rfl, _, _, hc1⟩ := HL.out.int_at hlt
    obtain ⟨d1, d2⟩ := HBG.out.get k
    by_cases hkj : k = j
    · subst hkj
      have hbad := HK.out
      generalize ns.getD k 0 = v at *
      unfold okN at hbad
      by_cases h0 : 0 ≤ v
      · have x0 : decide (v < 0) = false := by simp; omega
        have x1 : decide (15 < v) = true := by simp; omega
        clear hbad
        go_wp2
        go_ret2
        exact ⟨rfl, rfl⟩
      · have x0 : decide (v < 0) = true := by simp; omega
        clear hbad
        go_wp2
        go_ret2
        exact ⟨rfl, rfl⟩
    · generalize ns.getD k 0 = v at *
      by_cases h0 : 0 ≤ v ∧ v ≤ 15
      · have x0 : decide (v < 0) = false := by simp; omega
        have x1 : decide (15 < v) = false := by simp; omega
        go_wp2
        go_round
        case rel => exact ⟨k + 1, by omega, by go_num⟩
        case measure => simp [intOf]; omega
      · by_cases h0' : 0 ≤ v
        · have x0 : decide (v < 0) = false := by simp; omega
          have x1 : decide (15 < v) = true := by simp; omega
          clear h0
          go_wp2
          go_ret2
          exact ⟨rfl, rfl⟩
        · have x0 : decide (v < 0) = true := by simp; omega
          clear h0
          go_wp2
          go_ret2
          exact ⟨rfl, rfl⟩
end Go.Proofs.Ytfoefncmfmfgeaa
