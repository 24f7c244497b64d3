/- AlphaFixed, for every number. -/
import Derived.Test.YtgncenladhempaaDoorW7
namespace Go.Proofs.YtgncenladhempaaDoor
open Go.RowKit

def ol : List Int := [16, 17, 18, 0, 8, 7, 9, 6, 10, 5, 11, 4, 12, 3, 13, 2, 14, 1, 15]
theorem rorder_any (w : World) : Calls Tryd.prog 11 #[] w fun e w' => e = .returned (.slice (some ⟨w.heap.size, 0, none⟩) 19 19) ∧ Whole w' w.heap.size 3 (arr ol) ∧ Below w.heap.size w w' := by
  go_enter Tryd.func11, Tryd.ntmps11
  go_wp2
  go_ret
  exact ⟨rfl, Whole.new w 3 (arr ol) rfl, (Below.refl _ _).alloc (Nat.le_refl _) _⟩
theorem order_in (n : Int) (k : Nat) (hk : k < 19) (hn : n = (k : Int)) (w : World) (T3 : TabAt w 3 ol) :
    Calls Tryd.prog 12 #[.int .i64 n] w fun e w' => e = .returned (.int .i64 (ol.getD k 0)) ∧ w = w' := by
  subst hn
  have c0 := T3 k (by exact hk)
  clear T3
  have i0 : (0 : Int) ≤ (k : Int) := by omega
  have i1 : (k : Int) < 19 := by omega
  generalize ol.getD k 0 = a at *
  go_enter Tryd.func12, Tryd.ntmps12
  go_wp2
  go_ret
  exact ⟨rfl, rfl⟩
theorem order_out (n : Int) (hn : n < 0 ∨ 19 ≤ n) (w : World) :
    Calls Tryd.prog 12 #[.int .i64 n] w fun e w' => e = .returned (.int .i64 (-1)) ∧ w = w' := by
  rcases hn with h | h
  · go_enter Tryd.func12, Tryd.ntmps12
    go_wp2
    go_ret
    exact ⟨rfl, rfl⟩
  · go_enter Tryd.func12, Tryd.ntmps12
    go_wp2
    go_ret
    exact ⟨rfl, rfl⟩
set_option maxHeartbeats 1000000 in
set_option maxRecDepth 100000 in
theorem fixed_in (k : Nat) (hk : k < 19) (w : World) (T3 : TabAt w 3 ol) : Calls Tryd.prog 4 #[.int .i64 (k : Int)] w fun e w' => e = .returned (.bool true) ∧ Below w.heap.size w w' := by
  obtain ⟨a, ha⟩ : ∃ x, ol.getD k 0 = x := ⟨_, rfl⟩
  have G := Lib.hid ha
  clear ha
  have i0 : (0 : Int) ≤ (k : Int) := by omega
  have i1 : (k : Int) < 19 := by omega
  have H3 := Lib.hid T3
  clear T3
  go_enter Tryd.func4, Tryd.ntmps4
  go_wp2_with fail
  refine (awake_any w).mono ?_
  rintro e w1 ⟨rfl, hb1⟩
  have HB1 := Lib.hid hb1
  have K1 := Lib.hid (H3.out.below hb1)
  clear hb1 H3
  go_wp2_with fail
  refine (rorder_any w1).mono ?_
  rintro e w2 ⟨rfl, ho, hb2⟩
  have HB2 := Lib.hid (HB1.out.trans (hb2.mono HB1.out.size))
  have K2 := Lib.hid (K1.out.below hb2)
  obtain ⟨p, ep⟩ : ∃ p, w1.heap.size = p := ⟨_, rfl⟩
  rw [ep] at ho ⊢
  have O2 := Lib.hid ho
  clear hb2 ho ep HB1 K1
  have cx := int_cell O2.out (k := k) (by exact hk)
  rw [G.out] at cx
  go_wp2_with fail
  refine (order_in _ k hk rfl w2 K2.out).mono ?_
  rw [G.out]
  rintro e w' ⟨rfl, rfl⟩
  go_wp2_with fail
  refine (fixedLits_any w2).mono ?_
  rintro e w3 ⟨rfl, hf3, hb3⟩
  have HB3 := Lib.hid (HB2.out.trans (hb3.mono HB2.out.size))
  obtain ⟨q, eq⟩ : ∃ p, w2.heap.size = p := ⟨_, rfl⟩
  rw [eq] at hf3 ⊢
  have F3 := Lib.hid hf3
  clear hb3 hf3 eq HB2 K2 O2
  go_wp2_with fail
  refine (rfixedLits_any w3).mono ?_
  rintro e w4 ⟨A4, c4, rfl, hf4, hb4⟩
  have HB4 := Lib.hid (HB3.out.trans (hb4.mono HB3.out.size))
  have F4 := Lib.hid (F3.out.below' hb4)
  have R4 := Lib.hid (Lst.of_own hf4)
  clear hb4 hf4 HB3 F3
  go_wp2_with fail
  refine (ints_same _ _ 288 288 c4 _ _ _ w4 F4.out.lst R4.out (by omega)).mono ?_
  rintro e w5 ⟨rfl, hb5⟩
  have HB5 := Lib.hid (HB4.out.trans (hb5.mono HB4.out.size))
  clear hb5 HB4 F4 R4
  go_wp2_with fail
  refine (fixedDists_any w5).mono ?_
  rintro e w6 ⟨rfl, hf6, hb6⟩
  have HB6 := Lib.hid (HB5.out.trans (hb6.mono HB5.out.size))
  obtain ⟨r, er⟩ : ∃ p, w5.heap.size = p := ⟨_, rfl⟩
  rw [er] at hf6 ⊢
  have F6 := Lib.hid hf6
  clear hb6 hf6 er HB5
  go_wp2_with fail
  refine (rfixedDists_any w6).mono ?_
  rintro e w7 ⟨A7, c7, rfl, hf7, hb7⟩
  have HB7 := Lib.hid (HB6.out.trans (hb7.mono HB6.out.size))
  have F7 := Lib.hid (F6.out.below' hb7)
  have R7 := Lib.hid (Lst.of_own hf7)
  clear hb7 hf7 HB6 F6
  go_wp2_with fail
  refine (ints_same _ _ 32 32 c7 _ _ _ w7 F7.out.lst R7.out (by omega)).mono ?_
  rintro e w8 ⟨rfl, hb8⟩
  have HB8 := Lib.hid (HB7.out.trans (hb8.mono HB7.out.size))
  clear hb8 HB7 F7 R7
  go_wp2
  go_ret
  exact ⟨rfl, HB8.out⟩
set_option maxHeartbeats 1000000 in
set_option maxRecDepth 100000 in
theorem fixed_low (n : Int) (h : n < 0) (w : World) (T3 : TabAt w 3 ol) : Calls Tryd.prog 4 #[.int .i64 n] w fun e w' => e = .returned (.bool true) ∧ Below w.heap.size w w' := by
  have H3 := Lib.hid T3
  clear T3
  go_enter Tryd.func4, Tryd.ntmps4
  go_wp2_with fail
  refine (awake_any w).mono ?_
  rintro e w1 ⟨rfl, hb1⟩
  have HB1 := Lib.hid hb1
  have K1 := Lib.hid (H3.out.below hb1)
  clear hb1 H3
  go_wp2_with fail
  refine (rorder_any w1).mono ?_
  rintro e w2 ⟨rfl, ho, hb2⟩
  have HB2 := Lib.hid (HB1.out.trans (hb2.mono HB1.out.size))
  have K2 := Lib.hid (K1.out.below hb2)
  obtain ⟨p, ep⟩ : ∃ p, w1.heap.size = p := ⟨_, rfl⟩
  rw [ep] at ho ⊢
  have O2 := Lib.hid ho
  clear hb2 ho ep HB1 K1
  go_wp2_with fail
  refine (order_out n (by omega) w2).mono ?_
  rintro e w' ⟨rfl, rfl⟩
  go_wp2_with fail
  refine (fixedLits_any w2).mono ?_
  rintro e w3 ⟨rfl, hf3, hb3⟩
  have HB3 := Lib.hid (HB2.out.trans (hb3.mono HB2.out.size))
  obtain ⟨q, eq⟩ : ∃ p, w2.heap.size = p := ⟨_, rfl⟩
  rw [eq] at hf3 ⊢
  have F3 := Lib.hid hf3
  clear hb3 hf3 eq HB2 K2 O2
  go_wp2_with fail
  refine (rfixedLits_any w3).mono ?_
  rintro e w4 ⟨A4, c4, rfl, hf4, hb4⟩
  have HB4 := Lib.hid (HB3.out.trans (hb4.mono HB3.out.size))
  have F4 := Lib.hid (F3.out.below' hb4)
  have R4 := Lib.hid (Lst.of_own hf4)
  clear hb4 hf4 HB3 F3
  go_wp2_with fail
  refine (ints_same _ _ 288 288 c4 _ _ _ w4 F4.out.lst R4.out (by omega)).mono ?_
  rintro e w5 ⟨rfl, hb5⟩
  have HB5 := Lib.hid (HB4.out.trans (hb5.mono HB4.out.size))
  clear hb5 HB4 F4 R4
  go_wp2_with fail
  refine (fixedDists_any w5).mono ?_
  rintro e w6 ⟨rfl, hf6, hb6⟩
  have HB6 := Lib.hid (HB5.out.trans (hb6.mono HB5.out.size))
  obtain ⟨r, er⟩ : ∃ p, w5.heap.size = p := ⟨_, rfl⟩
  rw [er] at hf6 ⊢
  have F6 := Lib.hid hf6
  clear hb6 hf6 er HB5
  go_wp2_with fail
  refine (rfixedDists_any w6).mono ?_
  rintro e w7 ⟨A7, c7, rfl, hf7, hb7⟩
  have HB7 := Lib.hid (HB6.out.trans (hb7.mono HB6.out.size))
  have F7 := Lib.hid (F6.out.below' hb7)
  have R7 := Lib.hid (Lst.of_own hf7)
  clear hb7 hf7 HB6 F6
  go_wp2_with fail
  refine (ints_same _ _ 32 32 c7 _ _ _ w7 F7.out.lst R7.out (by omega)).mono ?_
  rintro e w8 ⟨rfl, hb8⟩
  have HB8 := Lib.hid (HB7.out.trans (hb8.mono HB7.out.size))
  clear hb8 HB7 F7 R7
  go_wp2
  go_ret
  exact ⟨rfl, HB8.out⟩
set_option maxHeartbeats 1000000 in
set_option maxRecDepth 100000 in
theorem fixed_high (n : Int) (h : 19 ≤ n) (w : World) (T3 : TabAt w 3 ol) : Calls Tryd.prog 4 #[.int .i64 n] w fun e w' => e = .returned (.bool true) ∧ Below w.heap.size w w' := by
  have H3 := Lib.hid T3
  clear T3
  go_enter Tryd.func4, Tryd.ntmps4
  go_wp2_with fail
  refine (awake_any w).mono ?_
  rintro e w1 ⟨rfl, hb1⟩
  have HB1 := Lib.hid hb1
  have K1 := Lib.hid (H3.out.below hb1)
  clear hb1 H3
  go_wp2_with fail
  refine (rorder_any w1).mono ?_
  rintro e w2 ⟨rfl, ho, hb2⟩
  have HB2 := Lib.hid (HB1.out.trans (hb2.mono HB1.out.size))
  have K2 := Lib.hid (K1.out.below hb2)
  obtain ⟨p, ep⟩ : ∃ p, w1.heap.size = p := ⟨_, rfl⟩
  rw [ep] at ho ⊢
  have O2 := Lib.hid ho
  clear hb2 ho ep HB1 K1
  go_wp2_with fail
  refine (order_out n (by omega) w2).mono ?_
  rintro e w' ⟨rfl, rfl⟩
  go_wp2_with fail
  refine (fixedLits_any w2).mono ?_
  rintro e w3 ⟨rfl, hf3, hb3⟩
  have HB3 := Lib.hid (HB2.out.trans (hb3.mono HB2.out.size))
  obtain ⟨q, eq⟩ : ∃ p, w2.heap.size = p := ⟨_, rfl⟩
  rw [eq] at hf3 ⊢
  have F3 := Lib.hid hf3
  clear hb3 hf3 eq HB2 K2 O2
  go_wp2_with fail
  refine (rfixedLits_any w3).mono ?_
  rintro e w4 ⟨A4, c4, rfl, hf4, hb4⟩
  have HB4 := Lib.hid (HB3.out.trans (hb4.mono HB3.out.size))
  have F4 := Lib.hid (F3.out.below' hb4)
  have R4 := Lib.hid (Lst.of_own hf4)
  clear hb4 hf4 HB3 F3
  go_wp2_with fail
  refine (ints_same _ _ 288 288 c4 _ _ _ w4 F4.out.lst R4.out (by omega)).mono ?_
  rintro e w5 ⟨rfl, hb5⟩
  have HB5 := Lib.hid (HB4.out.trans (hb5.mono HB4.out.size))
  clear hb5 HB4 F4 R4
  go_wp2_with fail
  refine (fixedDists_any w5).mono ?_
  rintro e w6 ⟨rfl, hf6, hb6⟩
  have HB6 := Lib.hid (HB5.out.trans (hb6.mono HB5.out.size))
  obtain ⟨r, er⟩ : ∃ p, w5.heap.size = p := ⟨_, rfl⟩
  rw [er] at hf6 ⊢
  have F6 := Lib.hid hf6
  clear hb6 hf6 er HB5
  go_wp2_with fail
  refine (rfixedDists_any w6).mono ?_
  rintro e w7 ⟨A7, c7, rfl, hf7, hb7⟩
  have HB7 := Lib.hid (HB6.out.trans (hb7.mono HB6.out.size))
  have F7 := Lib.hid (F6.out.below' hb7)
  have R7 := Lib.hid (Lst.of_own hf7)
  clear hb7 hf7 HB6 F6
  go_wp2_with fail
  refine (ints_same _ _ 32 32 c7 _ _ _ w7 F7.out.lst R7.out (by omega)).mono ?_
  rintro e w8 ⟨rfl, hb8⟩
  have HB8 := Lib.hid (HB7.out.trans (hb8.mono HB7.out.size))
  clear hb8 HB7 F7 R7
  go_wp2
  go_ret
  exact ⟨rfl, HB8.out⟩
theorem fixed_any (n : Int) (w : World) (T3 : TabAt w 3 ol) : Calls Tryd.prog 4 #[.int .i64 n] w fun e w' => e = .returned (.bool true) ∧ Below w.heap.size w w' := by
  by_cases a : n < 0
  · exact fixed_low n a w T3
  by_cases b : 19 ≤ n
  · exact fixed_high n b w T3
  · have h := fixed_in n.toNat (by omega) w T3
    rw [show ((n.toNat : Nat) : Int) = n by omega] at h
    exact h
end Go.Proofs.YtgncenladhempaaDoor
