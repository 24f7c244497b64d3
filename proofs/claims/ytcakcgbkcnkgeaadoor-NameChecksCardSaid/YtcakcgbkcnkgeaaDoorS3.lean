/- Base, Dir, Less, Rune. -/
import Derived.Test.YtcakcgbkcnkgeaaDoorS2
import Derived.Test.YtcakcgbkcnkgeaaDoorM2
import Derived.Test.YtcakcgbkcnkgeaaDoorR1
namespace Go.Proofs.YtcakcgbkcnkgeaaDoor
open Go.RowKit

theorem lastB (s : ByteArray) : Lib.lastIndexByte s 47 = -1 ∨ ∃ i : Nat, i < s.size ∧ Lib.lastIndexByte s 47 = (i : Int) := by
  rcases Lib.lastIndexByte_spec s 47 with ⟨e, _⟩ | ⟨i, hi, e, _⟩
  · exact .inl e
  · exact .inr ⟨i, hi, e⟩
def baseS (s : ByteArray) : ByteArray := s.extract (Lib.lastIndexByte s 47 + 1).toNat s.size
def dirS (s : ByteArray) : ByteArray := s.extract 0 (Lib.lastIndexByte s 47).toNat
set_option maxHeartbeats 1000000 in
theorem base_any (s : ByteArray) (w : World) (hs : s.size ≤ 1000000) : Calls Tryd.prog 18 #[.string s] w fun e w' => e = .returned (.string (baseS s)) ∧ w = w' := by
  unfold baseS
  have hc := Tryd.strings_LastIndexByte s 47 (by omega) w
  rcases lastB s with h | ⟨i, hi, h⟩
  · rw [h] at hc ⊢
    have HC := Lib.hid hc
    clear hc h
    go_enter Tryd.func18, Tryd.ntmps18
    go_wp2_with fail
    refine HC.out.mono ?_
    rintro e w1 ⟨rfl, rfl⟩
    go_wp2
    go_ret
    simp
  · rw [h] at hc ⊢
    have HC := Lib.hid hc
    have e1 : ((i : Int) + 1).toNat = i + 1 := by omega
    have HI := Lib.hid hi
    rw [e1]
    clear hc h e1
    go_enter Tryd.func18, Tryd.ntmps18
    go_wp2_with fail
    refine HC.out.mono ?_
    rintro e w1 ⟨rfl, rfl⟩
    have hi := HI.out
    have e1 : ((i : Int) + 1).toNat = i + 1 := by omega
    go_wp2
    go_ret
    simp
set_option maxHeartbeats 1000000 in
theorem dir_any (s : ByteArray) (w : World) (hs : s.size ≤ 1000000) : Calls Tryd.prog 19 #[.string s] w fun e w' => e = .returned (.string (dirS s)) ∧ w = w' := by
  unfold dirS
  have hc := Tryd.strings_LastIndexByte s 47 (by omega) w
  rcases lastB s with h | ⟨i, hi, h⟩
  · rw [h] at hc ⊢
    have HC := Lib.hid hc
    clear hc h
    go_enter Tryd.func19, Tryd.ntmps19
    go_wp2_with fail
    refine HC.out.mono ?_
    rintro e w1 ⟨rfl, rfl⟩
    go_wp2
    go_ret
    simp <;> exact .inl (by decide)
  · rw [h] at hc ⊢
    have HC := Lib.hid hc
    have HI := Lib.hid hi
    clear hc h
    go_enter Tryd.func19, Tryd.ntmps19
    go_wp2_with fail
    refine HC.out.mono ?_
    rintro e w1 ⟨rfl, rfl⟩
    have hi := HI.out
    have e1 : (if (0 : Int) < (i : Int) then (i : Int) else 0) = (i : Int) := by split <;> omega
    go_wp2
    go_ret
    simp
set_option maxHeartbeats 1000000 in
theorem less_any (a b : ByteArray) (w : World) (ha : a.size ≤ 100000) (hb : b.size ≤ 100000) (hE : Env w) : Calls Tryd.prog 20 #[.string a, .string b] w fun e w' => e = .returned (.bool (lessB a b)) ∧ Below w.heap.size w w' := by
  have hna : (parts a).length ≤ 100001 := by
    rw [parts_len]; have := Lib.countB_le slash (by decide) a.size a (Nat.le_refl _); omega
  have hnb : (parts b).length ≤ 100001 := by
    rw [parts_len]; have := Lib.countB_le slash (by decide) b.size b (Nat.le_refl _); omega
  unfold lessB
  have HA := Lib.hid ha
  have HB := Lib.hid hb
  have HE := Lib.hid hE
  clear hE
  go_enter Tryd.func20, Tryd.ntmps20
  go_wp2_with fail
  refine (parts_any a w (by omega) HE.out).mono ?_
  rintro e w1 ⟨rfl, hw1⟩
  rw [← parts_len]
  have HB1 : Hid (Below w.heap.size w w1) := Lib.hid (hw1 ▸ (Below.refl _ _).alloc (Nat.le_refl _) _)
  have HL1 : Hid (Lst w1 (fun k => k = w.heap.size) 1 (some ⟨w.heap.size, 0, none⟩) (parts a).length ((parts a).map Value.string)) := Lib.hid (by
    rw [hw1]
    have := Lst.new (size := 1) w 9 ((parts a).map Value.string).toArray (parts a).length (by simp) (b := w.heap.size) (fr := (0, 0)) rfl
    simpa using this)
  have HE1 := Lib.hid (HE.out.below HB1.out)
  clear hw1
  obtain ⟨ps, hps⟩ : ∃ ps, parts a = ps := ⟨_, rfl⟩
  rw [hps] at HL1 hna ⊢
  have HP1 := Lib.hid hps
  clear hps
  obtain ⟨n, hn⟩ : ∃ n, ps.length = n := ⟨_, rfl⟩
  rw [hn] at HL1 hna ⊢
  obtain ⟨g, hg⟩ : ∃ g, w.heap.size = g := ⟨_, rfl⟩
  rw [hg] at HL1 ⊢
  have HG := Lib.hid hg
  clear hn hg
  go_wp2_with fail
  refine (parts_any b w1 (by omega) HE1.out).mono ?_
  rintro e w2 ⟨rfl, hw2⟩
  rw [← parts_len]
  have HB2 : Hid (Below g w w2) := Lib.hid (hw2 ▸ (HG.out ▸ HB1.out.alloc HB1.out.size _))
  have HL2 : Hid (Lst w2 (fun k => k = w1.heap.size) 1 (some ⟨w1.heap.size, 0, none⟩) (parts b).length ((parts b).map Value.string)) := Lib.hid (by
    rw [hw2]
    have := Lst.new (size := 1) w1 9 ((parts b).map Value.string).toArray (parts b).length (by simp) (b := w1.heap.size) (fr := (0, 0)) rfl
    simpa using this)
  have HL1 : Hid (Lst w2 (fun k => k = g) 1 (some ⟨g, 0, none⟩) n (ps.map Value.string)) := Lib.hid (by rw [hw2]; exact HL1.out.alloc _)
  clear hw2
  obtain ⟨qs, hqs⟩ : ∃ qs, parts b = qs := ⟨_, rfl⟩
  rw [hqs] at HL2 hnb ⊢
  have HP2 := Lib.hid hqs
  clear hqs
  obtain ⟨m, hm⟩ : ∃ m, qs.length = m := ⟨_, rfl⟩
  rw [hm] at HL2 hnb ⊢
  obtain ⟨g2, hg2⟩ : ∃ g2, w1.heap.size = g2 := ⟨_, rfl⟩
  rw [hg2] at HL2 ⊢
  clear hm hg2
  go_wp2_with fail
  refine (scmp_any ps qs _ _ n n m m _ _ w2 HL1.out HL2.out (by omega) (by omega)).mono ?_
  rintro e w3 ⟨rfl, rfl⟩
  obtain ⟨r, hr⟩ : ∃ r, cmpP ps qs = r := ⟨_, rfl⟩
  rw [hr]
  have HR := Lib.hid hr
  clear hr
  go_wp2
  go_ret
  have e : cmpP (parts a) (parts b) = r := by rw [HP1.out, HP2.out]; exact HR.out
  exact ⟨by rw [e]; first | rfl | simp, HG.out ▸ HB2.out⟩
def runeV (s : ByteArray) : Value := .tuple #[.int .i32 ((refR s.data.toList).1 : Nat), .int .i64 ((refR s.data.toList).2 : Nat), .bool (!((refR s.data.toList).2 == 0))]
set_option maxHeartbeats 1000000 in
theorem rune_any (s : ByteArray) (w : World) (hE : Env w) : Calls Tryd.prog 13 #[.string s] w fun e w' => e = .returned (runeV s) ∧ Below w.heap.size w w' := by
  have hc := Tryd.utf8_DecodeRuneInString s w hE.1
  unfold runeV
  by_cases hne : s.data.toList = []
  · have h0 : s.size = 0 := by
      have : s.size = s.data.toList.length := by simp
      rw [this, hne]; rfl
    have hd : Lib.decodeGo s = (65533, 0) := by unfold Lib.decodeGo; rw [if_pos h0]
    rw [hd] at hc
    have HC := Lib.hid hc
    rw [hne]
    have hr : refR [] = (0, 0) := rfl
    rw [hr]
    clear hc hd
    go_enter Tryd.func13, Tryd.ntmps13
    go_wp2_with fail
    refine HC.out.mono ?_
    rintro e w1 ⟨rfl, hb⟩
    go_wp2
    simp [bodyPost, results, Tryd.results13, go_sem]
    exact hb
  · have h0 : ¬ s.size = 0 := by
      intro h
      apply hne
      apply List.eq_nil_of_length_eq_zero
      have : s.size = s.data.toList.length := by simp
      omega
    have hd : Lib.decodeGo s = Lib.decodeL s.data.toList := by
      unfold Lib.decodeGo Lib.decodeL
      rw [if_neg h0]
    rw [hd] at hc
    rcases refR_dec s.data.toList hne with ⟨e1, e2⟩ | ⟨e1, e2, e3⟩
    · rw [e1] at hc
      rw [e2]
      have HC := Lib.hid hc
      clear hc hd e1 e2
      go_enter Tryd.func13, Tryd.ntmps13
      go_wp2_with fail
      refine HC.out.mono ?_
      rintro e w1 ⟨rfl, hb⟩
      go_wp2
      simp [bodyPost, results, Tryd.results13, go_sem]
      exact hb
    · rw [e1]
      obtain ⟨r, hr⟩ : ∃ r, (Lib.decodeL s.data.toList).1 = r := ⟨_, rfl⟩
      obtain ⟨n, hn⟩ : ∃ n, (Lib.decodeL s.data.toList).2 = n := ⟨_, rfl⟩
      rw [hr, hn] at hc e3 ⊢
      rw [hn] at e2
      have HC := Lib.hid hc
      have H2 := Lib.hid e2
      have hx : (n == 0) = false := by simp; omega
      rw [hx]
      clear hc hd e1 hr hn hx
      by_cases hr : r = 65533
      · have d1 : ((r : Int) == 65533) = true := by simp; omega
        have d1' : (r == 65533) = true := by simp; omega
        have d2 : decide ((n : Int) ≤ 1) = false := by simp; omega
        have d2' : decide (n ≤ 1) = false := by simp; omega
        clear e3 hr e2
        go_enter Tryd.func13, Tryd.ntmps13
        go_wp2_with fail
        refine HC.out.mono ?_
        rintro e w1 ⟨rfl, hb⟩
        go_wp2
        simp [bodyPost, results, Tryd.results13, go_sem]
        exact hb
      · have d1 : ((r : Int) == 65533) = false := by simp; omega
        have d1' : (r == 65533) = false := by simp; omega
        clear e3 hr e2
        go_enter Tryd.func13, Tryd.ntmps13
        go_wp2_with fail
        refine HC.out.mono ?_
        rintro e w1 ⟨rfl, hb⟩
        go_wp2
        simp [bodyPost, results, Tryd.results13, go_sem]
        exact hb
set_option maxRecDepth 100000 in
theorem ex_name : nameCode ⟨#[97, 47, 46, 46, 47, 98]⟩ = 10 := by decide +kernel
set_option maxRecDepth 100000 in
theorem ex_less : lessB ⟨#[97, 47, 122]⟩ ⟨#[97, 46, 98]⟩ = true := by decide +kernel
theorem awake_any (w : World) (hE : Env w) : Calls Tryd.prog 7 #[] w fun e w' => e = .returned (.bool true) ∧ Below w.heap.size w w' := by
  have hc1 := name_any ⟨#[97, 47, 46, 46, 47, 98]⟩
  rw [ex_name] at hc1
  have hc2 := fun w hE => less_any ⟨#[97, 47, 122]⟩ ⟨#[97, 46, 98]⟩ w (by decide) (by decide) hE
  rw [ex_less] at hc2
  go_enter Tryd.func7, Tryd.ntmps7
  go_wp2_with fail
  refine (hc1 _ hE).mono ?_
  rintro e w1 ⟨rfl, hb1⟩
  go_wp2_with fail
  refine (hc2 _ (hE.below hb1)).mono ?_
  rintro e w2 ⟨rfl, hb2⟩
  go_wp2
  go_ret
  exact ⟨rfl, hb1.trans (hb2.mono hb1.size)⟩
end Go.Proofs.YtcakcgbkcnkgeaaDoor
