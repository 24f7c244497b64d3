/- DescCodes. -/
import Derived.Test.YtafdflpjfdeohaaE8
import Derived.Test.YtafdflpjfdeohaaE9
import Derived.Test.YtafdflpjfdeohaaE10
namespace Go.Proofs.Ytafdflpjfdeohaa
open Go.RowKit

set_option maxRecDepth 100000 in
theorem law_long (c : Nat) (p s : Int) (wd : Bool) (A : Option Addr) (n cA : Nat) (z : Int) (W : World) (hn : 300 < n) :
    Calls Try.prog 3 #[.agg #[.int .u32 (c : Nat), .int .i64 p, .int .i64 s, .bool wd], .slice A n cA, .int .i64 z] W fun e w' => e = .returned (.bool true) ∧ Below W.heap.size W w' := by
  have d1 : decide (300 < n) = true := by simpa using hn
  have d1' : decide ((300 : Int) < (n : Int)) = true := by simp; omega
  have HB0 := Lib.hid ((Below.refl W.heap.size W).alloc (Nat.le_refl _) (.cells #[.int .u32 (c : Nat), .int .i64 p, .int .i64 s, .bool wd] 24))
  go_enter Try.func3, Try.ntmps3
  go_wp2_with fail
  refine (awake_any _).mono ?_
  rintro e w1 ⟨rfl, hb1⟩
  have HB1 := Lib.hid (HB0.out.trans (hb1.mono HB0.out.size))
  clear hb1
  go_wp2
  go_ret
  exact ⟨rfl, HB1.out⟩
theorem parse_out (wd : Bool) (A : Option Addr) (n cA : Nat) (z : Int) (w : World) (h : z < 0 ∨ (n : Int) < z) :
    Calls Try.prog 10 #[.slice A n cA, .int .i64 z, .bool wd] w fun e w' => e = .returned (.tuple #[tl 0 0 0 false, .int .i64 0, .int .i64 2]) ∧ Below w.heap.size w w' := by
  cases wd
  · exact parse_out_slim A n cA z w h
  · exact parse_out_wide A n cA z w h
theorem parse_end_eq (wd : Bool) (A : Option Addr) (n cA at' : Nat) (K : Int) (w : World) (hat : at' = n) (hn : n ≤ 1000) (hnc : n ≤ cA) (hcc : cA ≤ 9223372036854775807) (hca : cA = at') (hK : (K == 0) = false)
    (hrd : ∀ g A2 c2 w', Rdr w' g A2 0 c2 [] 0 → c2 ≤ 9223372036854775807 → Calls Try.prog 15 #[.pointer (some ⟨g, 0, none⟩), .bool wd] w' fun e w'' => e = .panicked [{ v := fault K, recovered := false }] ∧ Alone w' w'' g) :
    Calls Try.prog 10 #[.slice A n cA, .int .i64 (at' : Nat), .bool wd] w fun e w' => e = .returned (.tuple #[tl 0 0 0 false, .int .i64 0, .int .i64 K]) ∧ Below w.heap.size w w' := by
  cases wd
  · exact parse_no_slim_end_eq A n cA at' K w hat hn hnc hcc hca hK hrd
  · exact parse_no_wide_end_eq A n cA at' K w hat hn hnc hcc hca hK hrd
theorem parse_end_ne (wd : Bool) (A : Option Addr) (n cA at' : Nat) (K : Int) (w : World) (hat : at' = n) (hn : n ≤ 1000) (hnc : n ≤ cA) (hcc : cA ≤ 9223372036854775807) (hca : ¬ cA = at') (hK : (K == 0) = false)
    (hrd : ∀ g A2 c2 w', Rdr w' g A2 0 c2 [] 0 → c2 ≤ 9223372036854775807 → Calls Try.prog 15 #[.pointer (some ⟨g, 0, none⟩), .bool wd] w' fun e w'' => e = .panicked [{ v := fault K, recovered := false }] ∧ Alone w' w'' g) :
    Calls Try.prog 10 #[.slice A n cA, .int .i64 (at' : Nat), .bool wd] w fun e w' => e = .returned (.tuple #[tl 0 0 0 false, .int .i64 0, .int .i64 K]) ∧ Below w.heap.size w w' := by
  cases wd
  · exact parse_no_slim_end_ne A n cA at' K w hat hn hnc hcc hca hK hrd
  · exact parse_no_wide_end_ne A n cA at' K w hat hn hnc hcc hca hK hrd
theorem parse_no (wd : Bool) (A : Option Addr) (n cA at' m : Nat) (bs xs : List UInt8) (S : Nat → Prop) (K : Int) (w : World) (hB : Bs w S A n bs) (hat : at' < n) (hn : n ≤ 1000) (hnc : n ≤ cA) (hcc : cA ≤ 9223372036854775807) (hm : min (n - at') (8 + 2 * wid wd) = m) (hx : (bs.drop at').take (8 + 2 * wid wd) = xs) (hK : (K == 0) = false)
    (hrd : ∀ g A2 c2 w', Rdr w' g A2 m c2 xs 0 → m ≤ c2 → c2 ≤ 9223372036854775807 → Calls Try.prog 15 #[.pointer (some ⟨g, 0, none⟩), .bool wd] w' fun e w'' => e = .panicked [{ v := fault K, recovered := false }] ∧ Alone w' w'' g) :
    Calls Try.prog 10 #[.slice A n cA, .int .i64 (at' : Nat), .bool wd] w fun e w' => e = .returned (.tuple #[tl 0 0 0 false, .int .i64 0, .int .i64 K]) ∧ Below w.heap.size w w' := by
  cases wd
  · exact parse_no_slim A n cA at' m bs xs S K w hB hat hn hnc hcc hm hx hK hrd
  · exact parse_no_wide A n cA at' m bs xs S K w hB hat hn hnc hcc hm hx hK hrd
theorem parse_yes (wd : Bool) (A : Option Addr) (n cA at' : Nat) (bs : List UInt8) (S : Nat → Prop) (c p s : Nat) (w : World) (hB : Bs w S A n bs) (hat : at' + (8 + 2 * wid wd) ≤ n) (hnn : n ≤ 1000) (hnc : n ≤ cA) (hcc : cA ≤ 9223372036854775807) (hE : (bs.drop at').take (8 + 2 * wid wd) = encD c p s wd) (hc : c < 4294967296) (hp : p ≤ 33554432) (hs : s ≤ 16777216) :
    Calls Try.prog 10 #[.slice A n cA, .int .i64 (at' : Nat), .bool wd] w fun e w' => e = .returned (.tuple #[tl c p s wd, .int .i64 ((at' + (8 + 2 * wid wd) : Nat) : Int), .int .i64 0]) ∧ Below w.heap.size w w' := by
  cases wd
  · exact parse_slim A n cA at' bs S c p s w hB hat hnn hnc hcc hE hc hp hs
  · exact parse_wide A n cA at' bs S c p s w hB hat hnn hnc hcc hE hc hp hs
set_option maxHeartbeats 2000000 in
theorem codes_ok (c : Nat) (p s : Int) (wd : Bool) (A : Option Addr) (n cA : Nat) (bs : List UInt8) (z : Int) (W : World) (hc : c < 4294967296) (hn : n ≤ 300) (hnc : n ≤ cA) (hcc : cA ≤ 9223372036854775807) (hB : Bs W (fun b => b < W.heap.size) A n bs) (h : okD p s = true) :
    Calls Try.prog 3 #[.agg #[.int .u32 (c : Nat), .int .i64 p, .int .i64 s, .bool wd], .slice A n cA, .int .i64 z] W fun e w' => e = .returned (.bool true) ∧ Below W.heap.size W w' := by
  have hL : 8 + 2 * wid wd = 16 ∨ 8 + 2 * wid wd = 24 := by rcases wid_pos wd with h | h <;> simp [h]
  have hl := hB.len
  have HL : Hid (∀ (c : Nat) (p s : Int) w, Calls Try.prog 9 #[.agg #[.int .u32 (c : Nat), .int .i64 p, .int .i64 s, .bool wd]] w fun e w' => e = .returned (.int .i64 ((8 + 2 * wid wd : Nat) : Int)) ∧ Below w.heap.size w w') := Lib.hid (fun c p s w => len_any c p s wd w)
  have hn' := h
  unfold okD at hn'
  simp at hn'
  obtain ⟨p, rfl⟩ := Int.eq_ofNat_of_zero_le (show 0 ≤ p by omega)
  obtain ⟨s, rfl⟩ := Int.eq_ofNat_of_zero_le (show 0 ≤ s by omega)
  have HC := Lib.hid (fun w => (check_any c p s wd w).mono (R' := fun e w' => e = .returned (.int .i64 0) ∧ Below w.heap.size w w') (fun e w' hh => by rw [h, if_pos rfl] at hh; exact hh))
  have HE6 : Hid (∀ w, Calls Try.prog 6 #[.int .u32 (c : Nat), .int .i64 (p : Nat), .int .i64 (s : Nat), .bool wd] w fun e w' => ∃ A cp, e = .returned (.slice A (8 + 2 * wid wd) cp) ∧ Bs w' (fun b => w.heap.size ≤ b) A (8 + 2 * wid wd) (encD c p s wd) ∧ Below w.heap.size w w') := Lib.hid (fun w => by
    cases wd
    · refine (renc_slim c p s w hc (by omega) (by omega)).mono ?_
      rintro e w' ⟨A, cp, rfl, ho, hb⟩
      exact ⟨A, cp, rfl, Bs.of_own ho, hb⟩
    · refine (renc_wide c p s w hc (by omega) (by omega)).mono ?_
      rintro e w' ⟨A, cp, rfl, ho, hb⟩
      exact ⟨A, cp, rfl, Bs.of_own ho, hb⟩)
  have HE7 : Hid (∀ w, Calls Try.prog 7 #[.agg #[.int .u32 (c : Nat), .int .i64 (p : Nat), .int .i64 (s : Nat), .bool wd]] w fun e w' => ∃ A cp, e = .returned (.tuple #[.slice A (8 + 2 * wid wd) cp, .int .i64 0]) ∧ Bs w' (fun b => w.heap.size ≤ b) A (8 + 2 * wid wd) (encD c p s wd) ∧ Below w.heap.size w w') := Lib.hid (fun w => by
    cases wd
    · refine (encode_slim c p s w hc (by omega) (by omega)).mono ?_
      rintro e w' ⟨A, cp, rfl, ho, _, hb⟩
      exact ⟨A, cp, rfl, ho, hb⟩
    · refine (encode_wide c p s w hc (by omega) (by omega)).mono ?_
      rintro e w' ⟨A, cp, rfl, ho, _, hb⟩
      exact ⟨A, cp, rfl, ho, hb⟩)
  have hXL : (encD c p s wd).length = 8 + 2 * wid wd := by rw [encD_cat, cat_len]; simp [csz]; omega
  by_cases hz : z < 0
  · exact law_ok_neg c p s wd A n cA (8 + 2 * wid wd) (encD c p s wd) W hn (by omega) (by omega) hXL z hz HE6 HE7 HC HL (Lib.hid fun w _ => parse_out wd A n cA z w (Or.inl hz))
  by_cases hz2 : (n : Int) < z
  · exact law_ok_big c p s wd A n cA (8 + 2 * wid wd) (encD c p s wd) W hn (by omega) (by omega) hXL z hz hz2 HE6 HE7 HC HL (Lib.hid fun w _ => parse_out wd A n cA z w (Or.inr hz2))
  obtain ⟨at', rfl⟩ := Int.eq_ofNat_of_zero_le (show 0 ≤ z by omega)
  have hat : at' ≤ n := by omega
  obtain ⟨M, hM⟩ : ∃ M, n - at' = M := ⟨_, rfl⟩
  obtain ⟨xs, hxs⟩ : ∃ xs, bs.drop at' = xs := ⟨_, rfl⟩
  have hxl : xs.length = M := by rw [← hxs, List.length_drop]; omega
  obtain ⟨c2, m1⟩ : ∃ c2, num ((xs.drop 4).take 4) = c2 := ⟨_, rfl⟩
  obtain ⟨p2, m2⟩ : ∃ p2, num ((xs.drop 8).take (wid wd)) = p2 := ⟨_, rfl⟩
  obtain ⟨s2, m3⟩ : ∃ s2, num ((xs.drop (8 + wid wd)).take (wid wd)) = s2 := ⟨_, rfl⟩
  have hpb : p2 < 18446744073709551616 := m2 ▸ num_bw xs 8 wd
  have hsb : s2 < 18446744073709551616 := m3 ▸ num_bw xs (8 + wid wd) wd
  obtain ⟨K2, hK2⟩ : ∃ K2, bad (dl xs M wd (IntKind.i64.wrap (p2 : Int)) (IntKind.i64.wrap (s2 : Int))) = K2 := ⟨_, rfl⟩
  have hz0 : K2 = 0 ↔ 8 + 2 * wid wd ≤ M ∧ num (xs.take 4) = 134695760 ∧ okD (IntKind.i64.wrap (p2 : Int)) (IntKind.i64.wrap (s2 : Int)) = true := by rw [← hK2]; exact dl_zero _ _ _ _ _
  have RQ := fun g A2 cp w' (hR : Rdr w' g A2 M cp xs 0) (h1 : M ≤ cp) (h2 : cp ≤ 9223372036854775807) => readq wd g A2 M cp xs c2 p2 s2 K2 w' hR (by omega) h1 h2 m1 m2 m3 hK2
  by_cases hca : cA = at'
  · have hM0 : M = 0 := by omega
    subst hM0
    have hx0 : xs = [] := List.length_eq_zero_iff.1 hxl
    subst hx0
    have hKn : (K2 == 0) = false := by rw [beq_eq_false_iff_ne]; intro hh; have := (hz0.1 hh).1; omega
    exact law_ok_none_eq c p s wd A n cA (8 + 2 * wid wd) (encD c p s wd) W hn (by omega) (by omega) hXL at' 0 hat hM hnc hca rfl [] 0 0 0 K2 K2 hKn hKn HE6 HE7 HC HL (Lib.hid fun w _ => parse_end_eq wd A n cA at' K2 w (by omega) (by omega) hnc hcc hca hKn (fun g A2 cp w' hR h2 => readq_thr (RQ g A2 cp w' hR (by omega) h2) hKn)) (Lib.hid fun w _ => rpar_short A 0 0 wd w (by omega)) (Lib.hid fun w _ => Bs.empty _ _ _) (Lib.hid fun g A2 cp w' hR h1 h2 => readq_thr (RQ g A2 cp w' hR h1 h2) hKn)
  · have HS : ∀ w, Below W.heap.size W w → Bs w (fun b => b < W.heap.size) (Option.map (fun x => x.add at') A) M xs := fun w hw => by
      rcases A with _ | ⟨b, off, sub⟩
      · have := (Bs.nil_of hB).1
        have hM0 : M = 0 := by omega
        subst hM0
        have hx0 : xs = [] := List.length_eq_zero_iff.1 hxl
        subst hx0
        exact Bs.empty _ _ _
      · rcases Nat.eq_zero_or_pos n with h0 | h0
        · have hM0 : M = 0 := by omega
          subst hM0
          have hx0 : xs = [] := List.length_eq_zero_iff.1 hxl
          subst hx0
          exact Bs.empty _ _ _
        · obtain ⟨b', off', he, -, -, -⟩ := hB.at_ (i := 0) h0
          cases he
          have := (hB.below hw).drop hat
          rw [hM, hxs] at this
          show Bs w _ (some ((⟨b, off, none⟩ : Addr).add at')) M xs
          rw [addr_add]
          exact this
    by_cases hML : 8 + 2 * wid wd ≤ M
    · obtain ⟨q, hq⟩ : ∃ q, (decide (p2 ≤ 33554432) && (decide (s2 ≤ 16777216) && (encD c2 p2 s2 wd == xs.take (8 + 2 * wid wd)))) = q := ⟨_, rfl⟩
      have HQ := fun w hw => rpar (Option.map (fun x => x.add at') A) M (cA - at') xs _ c2 p2 s2 wd w (HS w hw) (by omega) hML (by omega) m1 m2 m3 q hq
      have tk : ∀ o k, o + k ≤ 8 + 2 * wid wd → ((xs.take (8 + 2 * wid wd)).drop o).take k = (xs.drop o).take k := fun o k h => take_drop_take xs _ o k h
      have hXl : (xs.take (8 + 2 * wid wd)).length = 8 + 2 * wid wd := by rw [List.length_take]; omega
      have hei := encD_iff (xs.take (8 + 2 * wid wd)) c2 p2 s2 wd hXl (by rw [tk 4 4 (by omega)]; exact m1) (by rw [tk 8 _ (by omega)]; exact m2) (by rw [tk _ _ (by omega)]; exact m3)
      rw [List.take_take, Nat.min_eq_left (by omega)] at hei
      have hqi : q = true ↔ K2 = 0 := by
        rw [hz0, okD_wrap hpb hsb, ← hq, Bool.and_eq_true, Bool.and_eq_true, decide_eq_true_eq, decide_eq_true_eq, beq_iff_eq, hei]
        constructor
        · rintro ⟨a, b, c⟩; exact ⟨hML, c, a, b⟩
        · rintro ⟨_, c, a, b⟩; exact ⟨a, b, c⟩
      cases q
      · have hKn : (K2 == 0) = false := by rw [beq_eq_false_iff_ne]; intro hh; exact Bool.false_ne_true (hqi.2 hh)
        obtain ⟨K1, hK1⟩ : ∃ K1, bad (dl (xs.take (8 + 2 * wid wd)) (8 + 2 * wid wd) wd (IntKind.i64.wrap (p2 : Int)) (IntKind.i64.wrap (s2 : Int))) = K1 := ⟨_, rfl⟩
        have hK1n : (K1 == 0) = false := by
          rw [beq_eq_false_iff_ne]
          intro hh
          rw [← hK1, dl_zero, List.take_take, Nat.min_eq_left (by omega)] at hh
          exact Bool.false_ne_true (hqi.2 (hz0.2 ⟨hML, hh.2⟩))
        have h := law_ok_none_ne c p s wd A n cA (8 + 2 * wid wd) (encD c p s wd) W hn (by omega) (by omega) hXL at' M hat hM hnc hca xs c2 p2 s2 K1 K2 hK1n hKn HE6 HE7 HC HL (Lib.hid fun w hw => parse_no wd A n cA at' (8 + 2 * wid wd) bs _ _ K1 w (hB.below hw) (by omega) (by omega) hnc hcc (by omega) (by rw [hxs]) hK1n (fun g A2 cp w' hR h1 h2 => readq_thr (readq wd g A2 _ cp _ c2 p2 s2 K1 w' hR (by omega) h1 h2 (by rw [tk 4 4 (by omega)]; exact m1) (by rw [tk 8 _ (by omega)]; exact m2) (by rw [tk _ _ (by omega)]; exact m3) hK1) hK1n)) (Lib.hid HQ) (Lib.hid HS) (Lib.hid fun g A2 cp w' hR h1 h2 => readq_thr (RQ g A2 cp w' hR h1 h2) hKn)
        exact h
      · have hK0 : K2 = 0 := hqi.1 rfl
        simp only [Bool.and_eq_true, decide_eq_true_eq, beq_iff_eq] at hq
        obtain ⟨b1, b2, b3⟩ := hq
        have e1 : IntKind.i64.wrap (p2 : Int) = (p2 : Int) := IntWalk.i64_in _ (by omega)
        have e2 : IntKind.i64.wrap (s2 : Int) = (s2 : Int) := IntWalk.i64_in _ (by omega)
        rw [e1, e2] at RQ
        have hcb : c2 < 4294967296 := m1 ▸ num_bd xs _ 4 _ (by decide)
        exact law_ok_some c p s wd A n cA (8 + 2 * wid wd) (encD c p s wd) W hn (by omega) (by omega) hXL at' M hat hM hnc hca xs c2 p2 s2 HE6 HE7 HC HL (Lib.hid fun w hw => parse_yes wd A n cA at' bs _ c2 p2 s2 w (hB.below hw) (by omega) (by omega) hnc hcc (by rw [hxs]; exact b3.symm) hcb b1 b2) (Lib.hid HQ) (Lib.hid HS) (Lib.hid fun g A2 cp w' hR h1 h2 => readq_ret (RQ g A2 cp w' hR h1 h2) hK0)
    · have hKn : (K2 == 0) = false := by rw [beq_eq_false_iff_ne]; intro hh; exact hML (hz0.1 hh).1
      have HP : ∀ w, Below W.heap.size W w → Calls Try.prog 10 #[.slice A n cA, .int .i64 (at' : Nat), .bool wd] w fun e w' => e = .returned (.tuple #[tl 0 0 0 false, .int .i64 0, .int .i64 K2]) ∧ Below w.heap.size w w' := fun w hw => by
        rcases Nat.lt_or_ge at' n with h0 | h0
        · exact parse_no wd A n cA at' M bs xs _ K2 w (hB.below hw) h0 (by omega) hnc hcc (by omega) (by rw [hxs, List.take_of_length_le (by omega)]) hKn (fun g A2 cp w' hR h1 h2 => readq_thr (RQ g A2 cp w' hR h1 h2) hKn)
        · have hM0 : M = 0 := by omega
          subst hM0
          have hx0 : xs = [] := List.length_eq_zero_iff.1 hxl
          subst hx0
          exact parse_end_ne wd A n cA at' K2 w (by omega) (by omega) hnc hcc hca hKn (fun g A2 cp w' hR h2 => readq_thr (RQ g A2 cp w' hR (by omega) h2) hKn)
      exact law_ok_none_ne c p s wd A n cA (8 + 2 * wid wd) (encD c p s wd) W hn (by omega) (by omega) hXL at' M hat hM hnc hca xs 0 0 0 K2 K2 hKn hKn HE6 HE7 HC HL (Lib.hid HP) (Lib.hid fun w _ => rpar_short _ M _ wd w (by omega)) (Lib.hid HS) (Lib.hid fun g A2 cp w' hR h1 h2 => readq_thr (RQ g A2 cp w' hR h1 h2) hKn)
set_option maxHeartbeats 2000000 in
theorem codes_bad (c : Nat) (p s : Int) (wd : Bool) (A : Option Addr) (n cA : Nat) (bs : List UInt8) (z : Int) (W : World) (hc : c < 4294967296) (hn : n ≤ 300) (hnc : n ≤ cA) (hcc : cA ≤ 9223372036854775807) (hB : Bs W (fun b => b < W.heap.size) A n bs) (h : okD p s = false) :
    Calls Try.prog 3 #[.agg #[.int .u32 (c : Nat), .int .i64 p, .int .i64 s, .bool wd], .slice A n cA, .int .i64 z] W fun e w' => e = .returned (.bool true) ∧ Below W.heap.size W w' := by
  have hL : 8 + 2 * wid wd = 16 ∨ 8 + 2 * wid wd = 24 := by rcases wid_pos wd with h | h <;> simp [h]
  have hl := hB.len
  have HL : Hid (∀ (c : Nat) (p s : Int) w, Calls Try.prog 9 #[.agg #[.int .u32 (c : Nat), .int .i64 p, .int .i64 s, .bool wd]] w fun e w' => e = .returned (.int .i64 ((8 + 2 * wid wd : Nat) : Int)) ∧ Below w.heap.size w w') := Lib.hid (fun c p s w => len_any c p s wd w)
  have HC := Lib.hid (fun w => (check_any c p s wd w).mono (R' := fun e w' => e = .returned (.int .i64 13) ∧ Below w.heap.size w w') (fun e w' hh => by rw [h, if_neg (by simp)] at hh; exact hh))
  have HE6 : Hid (∀ w, Calls Try.prog 6 #[.int .u32 (c : Nat), .int .i64 p, .int .i64 s, .bool wd] w fun e w' => ∃ A cp, e = .returned (.slice A 0 cp) ∧ Bs w' (fun b => w.heap.size ≤ b) A 0 [] ∧ Below w.heap.size w w') := Lib.hid (fun w => by
    refine (renc_bad c p s wd w h).mono ?_
    rintro e w' ⟨rfl, rfl⟩
    exact ⟨none, 0, rfl, Bs.empty _ _ _, Below.refl _ _⟩)
  have HE7 : Hid (∀ w, Calls Try.prog 7 #[.agg #[.int .u32 (c : Nat), .int .i64 p, .int .i64 s, .bool wd]] w fun e w' => ∃ A cp, e = .returned (.tuple #[.slice A 0 cp, .int .i64 13]) ∧ Bs w' (fun b => w.heap.size ≤ b) A 0 [] ∧ Below w.heap.size w w') := Lib.hid (fun w => by
    refine (encode_bad c p s wd w h).mono ?_
    rintro e w' ⟨rfl, hb⟩
    exact ⟨none, 0, rfl, Bs.empty _ _ _, hb⟩)
  have hXL : (List.replicate (8 + 2 * wid wd) (0 : UInt8)).length = 8 + 2 * wid wd := List.length_replicate
  by_cases hz : z < 0
  · exact law_bad_neg c p s wd A n cA (8 + 2 * wid wd) (List.replicate (8 + 2 * wid wd) (0 : UInt8)) W hn (by omega) (by omega) hXL z hz HE6 HE7 HC HL (Lib.hid fun w _ => parse_out wd A n cA z w (Or.inl hz))
  by_cases hz2 : (n : Int) < z
  · exact law_bad_big c p s wd A n cA (8 + 2 * wid wd) (List.replicate (8 + 2 * wid wd) (0 : UInt8)) W hn (by omega) (by omega) hXL z hz hz2 HE6 HE7 HC HL (Lib.hid fun w _ => parse_out wd A n cA z w (Or.inr hz2))
  obtain ⟨at', rfl⟩ := Int.eq_ofNat_of_zero_le (show 0 ≤ z by omega)
  have hat : at' ≤ n := by omega
  obtain ⟨M, hM⟩ : ∃ M, n - at' = M := ⟨_, rfl⟩
  obtain ⟨xs, hxs⟩ : ∃ xs, bs.drop at' = xs := ⟨_, rfl⟩
  have hxl : xs.length = M := by rw [← hxs, List.length_drop]; omega
  obtain ⟨c2, m1⟩ : ∃ c2, num ((xs.drop 4).take 4) = c2 := ⟨_, rfl⟩
  obtain ⟨p2, m2⟩ : ∃ p2, num ((xs.drop 8).take (wid wd)) = p2 := ⟨_, rfl⟩
  obtain ⟨s2, m3⟩ : ∃ s2, num ((xs.drop (8 + wid wd)).take (wid wd)) = s2 := ⟨_, rfl⟩
  have hpb : p2 < 18446744073709551616 := m2 ▸ num_bw xs 8 wd
  have hsb : s2 < 18446744073709551616 := m3 ▸ num_bw xs (8 + wid wd) wd
  obtain ⟨K2, hK2⟩ : ∃ K2, bad (dl xs M wd (IntKind.i64.wrap (p2 : Int)) (IntKind.i64.wrap (s2 : Int))) = K2 := ⟨_, rfl⟩
  have hz0 : K2 = 0 ↔ 8 + 2 * wid wd ≤ M ∧ num (xs.take 4) = 134695760 ∧ okD (IntKind.i64.wrap (p2 : Int)) (IntKind.i64.wrap (s2 : Int)) = true := by rw [← hK2]; exact dl_zero _ _ _ _ _
  have RQ := fun g A2 cp w' (hR : Rdr w' g A2 M cp xs 0) (h1 : M ≤ cp) (h2 : cp ≤ 9223372036854775807) => readq wd g A2 M cp xs c2 p2 s2 K2 w' hR (by omega) h1 h2 m1 m2 m3 hK2
  by_cases hca : cA = at'
  · have hM0 : M = 0 := by omega
    subst hM0
    have hx0 : xs = [] := List.length_eq_zero_iff.1 hxl
    subst hx0
    have hKn : (K2 == 0) = false := by rw [beq_eq_false_iff_ne]; intro hh; have := (hz0.1 hh).1; omega
    exact law_bad_none_eq c p s wd A n cA (8 + 2 * wid wd) (List.replicate (8 + 2 * wid wd) (0 : UInt8)) W hn (by omega) (by omega) hXL at' 0 hat hM hnc hca rfl [] 0 0 0 K2 K2 hKn hKn HE6 HE7 HC HL (Lib.hid fun w _ => parse_end_eq wd A n cA at' K2 w (by omega) (by omega) hnc hcc hca hKn (fun g A2 cp w' hR h2 => readq_thr (RQ g A2 cp w' hR (by omega) h2) hKn)) (Lib.hid fun w _ => rpar_short A 0 0 wd w (by omega)) (Lib.hid fun w _ => Bs.empty _ _ _) (Lib.hid fun g A2 cp w' hR h1 h2 => readq_thr (RQ g A2 cp w' hR h1 h2) hKn)
  · have HS : ∀ w, Below W.heap.size W w → Bs w (fun b => b < W.heap.size) (Option.map (fun x => x.add at') A) M xs := fun w hw => by
      rcases A with _ | ⟨b, off, sub⟩
      · have := (Bs.nil_of hB).1
        have hM0 : M = 0 := by omega
        subst hM0
        have hx0 : xs = [] := List.length_eq_zero_iff.1 hxl
        subst hx0
        exact Bs.empty _ _ _
      · rcases Nat.eq_zero_or_pos n with h0 | h0
        · have hM0 : M = 0 := by omega
          subst hM0
          have hx0 : xs = [] := List.length_eq_zero_iff.1 hxl
          subst hx0
          exact Bs.empty _ _ _
        · obtain ⟨b', off', he, -, -, -⟩ := hB.at_ (i := 0) h0
          cases he
          have := (hB.below hw).drop hat
          rw [hM, hxs] at this
          show Bs w _ (some ((⟨b, off, none⟩ : Addr).add at')) M xs
          rw [addr_add]
          exact this
    by_cases hML : 8 + 2 * wid wd ≤ M
    · obtain ⟨q, hq⟩ : ∃ q, (decide (p2 ≤ 33554432) && (decide (s2 ≤ 16777216) && (encD c2 p2 s2 wd == xs.take (8 + 2 * wid wd)))) = q := ⟨_, rfl⟩
      have HQ := fun w hw => rpar (Option.map (fun x => x.add at') A) M (cA - at') xs _ c2 p2 s2 wd w (HS w hw) (by omega) hML (by omega) m1 m2 m3 q hq
      have tk : ∀ o k, o + k ≤ 8 + 2 * wid wd → ((xs.take (8 + 2 * wid wd)).drop o).take k = (xs.drop o).take k := fun o k h => take_drop_take xs _ o k h
      have hXl : (xs.take (8 + 2 * wid wd)).length = 8 + 2 * wid wd := by rw [List.length_take]; omega
      have hei := encD_iff (xs.take (8 + 2 * wid wd)) c2 p2 s2 wd hXl (by rw [tk 4 4 (by omega)]; exact m1) (by rw [tk 8 _ (by omega)]; exact m2) (by rw [tk _ _ (by omega)]; exact m3)
      rw [List.take_take, Nat.min_eq_left (by omega)] at hei
      have hqi : q = true ↔ K2 = 0 := by
        rw [hz0, okD_wrap hpb hsb, ← hq, Bool.and_eq_true, Bool.and_eq_true, decide_eq_true_eq, decide_eq_true_eq, beq_iff_eq, hei]
        constructor
        · rintro ⟨a, b, c⟩; exact ⟨hML, c, a, b⟩
        · rintro ⟨_, c, a, b⟩; exact ⟨a, b, c⟩
      cases q
      · have hKn : (K2 == 0) = false := by rw [beq_eq_false_iff_ne]; intro hh; exact Bool.false_ne_true (hqi.2 hh)
        obtain ⟨K1, hK1⟩ : ∃ K1, bad (dl (xs.take (8 + 2 * wid wd)) (8 + 2 * wid wd) wd (IntKind.i64.wrap (p2 : Int)) (IntKind.i64.wrap (s2 : Int))) = K1 := ⟨_, rfl⟩
        have hK1n : (K1 == 0) = false := by
          rw [beq_eq_false_iff_ne]
          intro hh
          rw [← hK1, dl_zero, List.take_take, Nat.min_eq_left (by omega)] at hh
          exact Bool.false_ne_true (hqi.2 (hz0.2 ⟨hML, hh.2⟩))
        have h := law_bad_none_ne c p s wd A n cA (8 + 2 * wid wd) (List.replicate (8 + 2 * wid wd) (0 : UInt8)) W hn (by omega) (by omega) hXL at' M hat hM hnc hca xs c2 p2 s2 K1 K2 hK1n hKn HE6 HE7 HC HL (Lib.hid fun w hw => parse_no wd A n cA at' (8 + 2 * wid wd) bs _ _ K1 w (hB.below hw) (by omega) (by omega) hnc hcc (by omega) (by rw [hxs]) hK1n (fun g A2 cp w' hR h1 h2 => readq_thr (readq wd g A2 _ cp _ c2 p2 s2 K1 w' hR (by omega) h1 h2 (by rw [tk 4 4 (by omega)]; exact m1) (by rw [tk 8 _ (by omega)]; exact m2) (by rw [tk _ _ (by omega)]; exact m3) hK1) hK1n)) (Lib.hid HQ) (Lib.hid HS) (Lib.hid fun g A2 cp w' hR h1 h2 => readq_thr (RQ g A2 cp w' hR h1 h2) hKn)
        exact h
      · have hK0 : K2 = 0 := hqi.1 rfl
        simp only [Bool.and_eq_true, decide_eq_true_eq, beq_iff_eq] at hq
        obtain ⟨b1, b2, b3⟩ := hq
        have e1 : IntKind.i64.wrap (p2 : Int) = (p2 : Int) := IntWalk.i64_in _ (by omega)
        have e2 : IntKind.i64.wrap (s2 : Int) = (s2 : Int) := IntWalk.i64_in _ (by omega)
        rw [e1, e2] at RQ
        have hcb : c2 < 4294967296 := m1 ▸ num_bd xs _ 4 _ (by decide)
        exact law_bad_some c p s wd A n cA (8 + 2 * wid wd) (List.replicate (8 + 2 * wid wd) (0 : UInt8)) W hn (by omega) (by omega) hXL at' M hat hM hnc hca xs c2 p2 s2 HE6 HE7 HC HL (Lib.hid fun w hw => parse_yes wd A n cA at' bs _ c2 p2 s2 w (hB.below hw) (by omega) (by omega) hnc hcc (by rw [hxs]; exact b3.symm) hcb b1 b2) (Lib.hid HQ) (Lib.hid HS) (Lib.hid fun g A2 cp w' hR h1 h2 => readq_ret (RQ g A2 cp w' hR h1 h2) hK0)
    · have hKn : (K2 == 0) = false := by rw [beq_eq_false_iff_ne]; intro hh; exact hML (hz0.1 hh).1
      have HP : ∀ w, Below W.heap.size W w → Calls Try.prog 10 #[.slice A n cA, .int .i64 (at' : Nat), .bool wd] w fun e w' => e = .returned (.tuple #[tl 0 0 0 false, .int .i64 0, .int .i64 K2]) ∧ Below w.heap.size w w' := fun w hw => by
        rcases Nat.lt_or_ge at' n with h0 | h0
        · exact parse_no wd A n cA at' M bs xs _ K2 w (hB.below hw) h0 (by omega) hnc hcc (by omega) (by rw [hxs, List.take_of_length_le (by omega)]) hKn (fun g A2 cp w' hR h1 h2 => readq_thr (RQ g A2 cp w' hR h1 h2) hKn)
        · have hM0 : M = 0 := by omega
          subst hM0
          have hx0 : xs = [] := List.length_eq_zero_iff.1 hxl
          subst hx0
          exact parse_end_ne wd A n cA at' K2 w (by omega) (by omega) hnc hcc hca hKn (fun g A2 cp w' hR h2 => readq_thr (RQ g A2 cp w' hR (by omega) h2) hKn)
      exact law_bad_none_ne c p s wd A n cA (8 + 2 * wid wd) (List.replicate (8 + 2 * wid wd) (0 : UInt8)) W hn (by omega) (by omega) hXL at' M hat hM hnc hca xs 0 0 0 K2 K2 hKn hKn HE6 HE7 HC HL (Lib.hid HP) (Lib.hid fun w _ => rpar_short _ M _ wd w (by omega)) (Lib.hid HS) (Lib.hid fun g A2 cp w' hR h1 h2 => readq_thr (RQ g A2 cp w' hR h1 h2) hKn)
theorem codes_law (c : Nat) (p s : Int) (wd : Bool) (A : Option Addr) (n cA : Nat) (bs : List UInt8) (z : Int) (W : World) (hc : c < 4294967296) (hnc : n ≤ cA) (hcc : cA ≤ 9223372036854775807) (hB : Bs W (fun b => b < W.heap.size) A n bs) :
    Calls Try.prog 3 #[.agg #[.int .u32 (c : Nat), .int .i64 p, .int .i64 s, .bool wd], .slice A n cA, .int .i64 z] W fun e w' => e = .returned (.bool true) ∧ Below W.heap.size W w' := by
  by_cases hn : n ≤ 300
  · cases h : okD p s
    · exact codes_bad c p s wd A n cA bs z W hc hn hnc hcc hB h
    · exact codes_ok c p s wd A n cA bs z W hc hn hnc hcc hB h
  · exact law_long c p s wd A n cA z W (by omega)
end Go.Proofs.Ytafdflpjfdeohaa
