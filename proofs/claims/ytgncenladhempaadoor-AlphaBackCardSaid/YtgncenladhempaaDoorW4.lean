/- AlphaBases, for every number. -/
import Derived.Test.YtgncenladhempaaDoorW3
namespace Go.Proofs.YtgncenladhempaaDoor
open Go.RowKit

set_option maxHeartbeats 400000 in
theorem awake_any (w : World) : Calls Tryd.prog 6 #[] w fun e w' => e = .returned (.bool true) ∧ Below w.heap.size w w' := by
  have e1 : lengthV 10 = part 264 0 0 true := by unfold lengthV; rw [if_pos (by omega), show findN lb 10 29 = 7 from by decide]; rfl
  have e2 : distV 5 = part 4 1 0 true := by unfold distV; rw [if_pos (by omega), show findN db 5 30 = 4 from by decide]; rfl
  go_enter Tryd.func6, Tryd.ntmps6
  go_wp2_with fail
  refine (length_any 10 w (by omega)).mono ?_
  rw [e1]
  rintro e w1 ⟨rfl, hb1⟩
  have HB1 := Lib.hid hb1
  clear hb1
  go_wp2_with fail
  refine (dist_any 5 _ (by omega)).mono ?_
  rw [e2]
  rintro e w2 ⟨rfl, hb2⟩
  have HB2 := Lib.hid ((HB1.out.alloc HB1.out.size _).trans (hb2.mono (by simp; have := HB1.out.size; omega)))
  have T1 := Lib.hid ((Whole.new w1 34 _ rfl).below' hb2)
  clear hb2 HB1
  have c0 := T1.out.cell 0
  have c1 := T1.out.cell 1
  have c2 := T1.out.cell 2
  have lt := T1.out.lt
  go_wp2
  go_ret
  exact ⟨rfl, HB2.out.alloc HB2.out.size _⟩
set_option maxHeartbeats 1000000 in
set_option maxRecDepth 100000 in
theorem bases_length (n : Int) (w : World) (k : Nat) (hk : k < 29) (hn : n - 257 = (k : Int)) (T0 : TabAt w 0 lb) (T1 : TabAt w 1 lx) (T2 : TabAt w 2 db) : Calls Tryd.prog 3 #[.int .i64 n] w fun e w' => e = .returned (.bool true) ∧ Below w.heap.size w w' := by
  obtain ⟨a1, ea1⟩ : ∃ x, lb.getD k 0 = x := ⟨_, rfl⟩
  obtain ⟨a2, ea2⟩ : ∃ x, lx.getD k 0 = x := ⟨_, rfl⟩
  have G1 := Lib.hid ea1
  have G2 := Lib.hid ea2
  clear ea1 ea2
  have H0 := Lib.hid T0
  have H1 := Lib.hid T1
  have H2 := Lib.hid T2
  clear T0 T1 T2
  go_enter Tryd.func3, Tryd.ntmps3
  go_wp2_with fail
  refine (awake_any w).mono ?_
  rintro e w1 ⟨rfl, hb1⟩
  have HB1 := Lib.hid hb1
  have K0 := Lib.hid (H0.out.below hb1)
  have K1 := Lib.hid (H1.out.below hb1)
  have K2 := Lib.hid (H2.out.below hb1)
  clear hb1 H0 H1 H2
  go_wp2_with fail
  refine (lengths_any w1).mono ?_
  rintro e w2 ⟨rfl, hb2, hl1, hl2⟩
  have g1 := HB1.out.size
  have HB2 := Lib.hid (HB1.out.trans (hb2.mono g1))
  have H0 := Lib.hid (K0.out.below hb2)
  have H1 := Lib.hid (K1.out.below hb2)
  have H2 := Lib.hid (K2.out.below hb2)
  obtain ⟨p1, ep1⟩ : ∃ p, w1.heap.size = p := ⟨_, rfl⟩
  obtain ⟨p2, ep2⟩ : ∃ p, w1.heap.size + 1 = p := ⟨_, rfl⟩
  rw [ep1] at hl1 ⊢
  rw [show p1 + 1 = p2 from by omega]
  rw [ep2] at hl2
  have A1 := Lib.hid hl1
  have A2 := Lib.hid hl2
  clear hb2 hl1 hl2 ep1 ep2 g1 HB1 K0 K1 K2
  go_wp2_with fail
  refine (dists_any w2).mono ?_
  rintro e w3 ⟨rfl, hb3, hl1, hl2⟩
  have g1 := HB2.out.size
  have HB3 := Lib.hid (HB2.out.trans (hb3.mono g1))
  have K0 := Lib.hid (H0.out.below hb3)
  have K1 := Lib.hid (H1.out.below hb3)
  have K2 := Lib.hid (H2.out.below hb3)
  have B1 := Lib.hid (A1.out.below' hb3)
  have B2 := Lib.hid (A2.out.below' hb3)
  obtain ⟨p3, ep1⟩ : ∃ p, w2.heap.size = p := ⟨_, rfl⟩
  obtain ⟨p4, ep2⟩ : ∃ p, w2.heap.size + 1 = p := ⟨_, rfl⟩
  rw [ep1] at hl1 ⊢
  rw [show p3 + 1 = p4 from by omega]
  rw [ep2] at hl2
  have B3 := Lib.hid hl1
  have B4 := Lib.hid hl2
  clear hb3 hl1 hl2 ep1 ep2 g1 HB2 A1 A2 H0 H1 H2
  go_wp2_with fail
  refine (lengthBase_in n k hk hn w3 K0.out K1.out).mono ?_
  rw [G1.out, G2.out]
  rintro e w4 ⟨rfl, hb4⟩
  have g1 := HB3.out.size
  have HB4 := Lib.hid (HB3.out.trans (hb4.mono g1))
  have H2 := Lib.hid (K2.out.below hb4)
  have A1 := Lib.hid (B1.out.below' hb4)
  have A2 := Lib.hid (B2.out.below' hb4)
  have A3 := Lib.hid (B3.out.below' hb4)
  have A4 := Lib.hid (B4.out.below' hb4)
  clear hb4 g1 HB3 B1 B2 B3 B4 K0 K1 K2
  go_wp2_with fail
  refine (distBase_out n (by omega) w4).mono ?_
  rintro e w5 ⟨rfl, hb5⟩
  have g1 := HB4.out.size
  have HB5 := Lib.hid (HB4.out.trans (hb5.mono g1))
  have B1 := Lib.hid (A1.out.below' hb5)
  have B2 := Lib.hid (A2.out.below' hb5)
  have B3 := Lib.hid (A3.out.below' hb5)
  have B4 := Lib.hid (A4.out.below' hb5)
  clear hb5 g1 HB4 A1 A2 A3 A4 H2
  have cx1 := int_cell B1.out (k := k) (by exact hk)
  have cx2 := int_cell B2.out (k := k) (by exact hk)
  rw [G1.out] at cx1
  rw [G2.out] at cx2
  have i0 : (0 : Int) ≤ (k : Int) := by omega
  have i1 : (k : Int) < 29 := by omega
  go_wp2
  all_goals
    go_ret
    exact ⟨rfl, HB5.out⟩
set_option maxHeartbeats 1000000 in
set_option maxRecDepth 100000 in
theorem bases_dist (n : Int) (w : World) (k : Nat) (hk : k < 30) (hn : n = (k : Int)) (T0 : TabAt w 0 lb) (T1 : TabAt w 1 lx) (T2 : TabAt w 2 db) : Calls Tryd.prog 3 #[.int .i64 n] w fun e w' => e = .returned (.bool true) ∧ Below w.heap.size w w' := by
  subst hn
  obtain ⟨a1, ea1⟩ : ∃ x, db.getD k 0 = x := ⟨_, rfl⟩
  obtain ⟨a2, ea2⟩ : ∃ x, dx.getD k 0 = x := ⟨_, rfl⟩
  have G1 := Lib.hid ea1
  have G2 := Lib.hid ea2
  clear ea1 ea2
  have H0 := Lib.hid T0
  have H1 := Lib.hid T1
  have H2 := Lib.hid T2
  clear T0 T1 T2
  go_enter Tryd.func3, Tryd.ntmps3
  go_wp2_with fail
  refine (awake_any w).mono ?_
  rintro e w1 ⟨rfl, hb1⟩
  have HB1 := Lib.hid hb1
  have K0 := Lib.hid (H0.out.below hb1)
  have K1 := Lib.hid (H1.out.below hb1)
  have K2 := Lib.hid (H2.out.below hb1)
  clear hb1 H0 H1 H2
  go_wp2_with fail
  refine (lengths_any w1).mono ?_
  rintro e w2 ⟨rfl, hb2, hl1, hl2⟩
  have g1 := HB1.out.size
  have HB2 := Lib.hid (HB1.out.trans (hb2.mono g1))
  have H0 := Lib.hid (K0.out.below hb2)
  have H1 := Lib.hid (K1.out.below hb2)
  have H2 := Lib.hid (K2.out.below hb2)
  obtain ⟨p1, ep1⟩ : ∃ p, w1.heap.size = p := ⟨_, rfl⟩
  obtain ⟨p2, ep2⟩ : ∃ p, w1.heap.size + 1 = p := ⟨_, rfl⟩
  rw [ep1] at hl1 ⊢
  rw [show p1 + 1 = p2 from by omega]
  rw [ep2] at hl2
  have A1 := Lib.hid hl1
  have A2 := Lib.hid hl2
  clear hb2 hl1 hl2 ep1 ep2 g1 HB1 K0 K1 K2
  go_wp2_with fail
  refine (dists_any w2).mono ?_
  rintro e w3 ⟨rfl, hb3, hl1, hl2⟩
  have g1 := HB2.out.size
  have HB3 := Lib.hid (HB2.out.trans (hb3.mono g1))
  have K0 := Lib.hid (H0.out.below hb3)
  have K1 := Lib.hid (H1.out.below hb3)
  have K2 := Lib.hid (H2.out.below hb3)
  have B1 := Lib.hid (A1.out.below' hb3)
  have B2 := Lib.hid (A2.out.below' hb3)
  obtain ⟨p3, ep1⟩ : ∃ p, w2.heap.size = p := ⟨_, rfl⟩
  obtain ⟨p4, ep2⟩ : ∃ p, w2.heap.size + 1 = p := ⟨_, rfl⟩
  rw [ep1] at hl1 ⊢
  rw [show p3 + 1 = p4 from by omega]
  rw [ep2] at hl2
  have B3 := Lib.hid hl1
  have B4 := Lib.hid hl2
  clear hb3 hl1 hl2 ep1 ep2 g1 HB2 A1 A2 H0 H1 H2
  go_wp2_with fail
  refine (lengthBase_out (k : Int) (by omega) w3).mono ?_
  rintro e w4 ⟨rfl, hb4⟩
  have g1 := HB3.out.size
  have HB4 := Lib.hid (HB3.out.trans (hb4.mono g1))
  have H2 := Lib.hid (K2.out.below hb4)
  have A1 := Lib.hid (B1.out.below' hb4)
  have A2 := Lib.hid (B2.out.below' hb4)
  have A3 := Lib.hid (B3.out.below' hb4)
  have A4 := Lib.hid (B4.out.below' hb4)
  clear hb4 g1 HB3 B1 B2 B3 B4 K0 K1 K2
  go_wp2_with fail
  refine (distBase_in (k : Int) k hk rfl w4 H2.out).mono ?_
  rw [G1.out, G2.out]
  rintro e w5 ⟨rfl, hb5⟩
  have g1 := HB4.out.size
  have HB5 := Lib.hid (HB4.out.trans (hb5.mono g1))
  have B1 := Lib.hid (A1.out.below' hb5)
  have B2 := Lib.hid (A2.out.below' hb5)
  have B3 := Lib.hid (A3.out.below' hb5)
  have B4 := Lib.hid (A4.out.below' hb5)
  clear hb5 g1 HB4 A1 A2 A3 A4 H2
  have cx1 := int_cell B3.out (k := k) (by exact hk)
  have cx2 := int_cell B4.out (k := k) (by exact hk)
  rw [G1.out] at cx1
  rw [G2.out] at cx2
  have i0 : (0 : Int) ≤ (k : Int) := by omega
  have i1 : (k : Int) < 30 := by omega
  go_wp2
  all_goals
    go_ret
    exact ⟨rfl, HB5.out⟩
set_option maxHeartbeats 1000000 in
set_option maxRecDepth 100000 in
theorem bases_low (n : Int) (w : World) (h : n < 0) (T0 : TabAt w 0 lb) (T1 : TabAt w 1 lx) (T2 : TabAt w 2 db) : Calls Tryd.prog 3 #[.int .i64 n] w fun e w' => e = .returned (.bool true) ∧ Below w.heap.size w w' := by
  have H0 := Lib.hid T0
  have H1 := Lib.hid T1
  have H2 := Lib.hid T2
  clear T0 T1 T2
  go_enter Tryd.func3, Tryd.ntmps3
  go_wp2_with fail
  refine (awake_any w).mono ?_
  rintro e w1 ⟨rfl, hb1⟩
  have HB1 := Lib.hid hb1
  have K0 := Lib.hid (H0.out.below hb1)
  have K1 := Lib.hid (H1.out.below hb1)
  have K2 := Lib.hid (H2.out.below hb1)
  clear hb1 H0 H1 H2
  go_wp2_with fail
  refine (lengths_any w1).mono ?_
  rintro e w2 ⟨rfl, hb2, hl1, hl2⟩
  have g1 := HB1.out.size
  have HB2 := Lib.hid (HB1.out.trans (hb2.mono g1))
  have H0 := Lib.hid (K0.out.below hb2)
  have H1 := Lib.hid (K1.out.below hb2)
  have H2 := Lib.hid (K2.out.below hb2)
  obtain ⟨p1, ep1⟩ : ∃ p, w1.heap.size = p := ⟨_, rfl⟩
  obtain ⟨p2, ep2⟩ : ∃ p, w1.heap.size + 1 = p := ⟨_, rfl⟩
  rw [ep1] at hl1 ⊢
  rw [show p1 + 1 = p2 from by omega]
  rw [ep2] at hl2
  have A1 := Lib.hid hl1
  have A2 := Lib.hid hl2
  clear hb2 hl1 hl2 ep1 ep2 g1 HB1 K0 K1 K2
  go_wp2_with fail
  refine (dists_any w2).mono ?_
  rintro e w3 ⟨rfl, hb3, hl1, hl2⟩
  have g1 := HB2.out.size
  have HB3 := Lib.hid (HB2.out.trans (hb3.mono g1))
  have K0 := Lib.hid (H0.out.below hb3)
  have K1 := Lib.hid (H1.out.below hb3)
  have K2 := Lib.hid (H2.out.below hb3)
  have B1 := Lib.hid (A1.out.below' hb3)
  have B2 := Lib.hid (A2.out.below' hb3)
  obtain ⟨p3, ep1⟩ : ∃ p, w2.heap.size = p := ⟨_, rfl⟩
  obtain ⟨p4, ep2⟩ : ∃ p, w2.heap.size + 1 = p := ⟨_, rfl⟩
  rw [ep1] at hl1 ⊢
  rw [show p3 + 1 = p4 from by omega]
  rw [ep2] at hl2
  have B3 := Lib.hid hl1
  have B4 := Lib.hid hl2
  clear hb3 hl1 hl2 ep1 ep2 g1 HB2 A1 A2 H0 H1 H2
  go_wp2_with fail
  refine (lengthBase_out n (by omega) w3).mono ?_
  rintro e w4 ⟨rfl, hb4⟩
  have g1 := HB3.out.size
  have HB4 := Lib.hid (HB3.out.trans (hb4.mono g1))
  have H2 := Lib.hid (K2.out.below hb4)
  have A1 := Lib.hid (B1.out.below' hb4)
  have A2 := Lib.hid (B2.out.below' hb4)
  have A3 := Lib.hid (B3.out.below' hb4)
  have A4 := Lib.hid (B4.out.below' hb4)
  clear hb4 g1 HB3 B1 B2 B3 B4 K0 K1 K2
  go_wp2_with fail
  refine (distBase_out n (by omega) w4).mono ?_
  rintro e w5 ⟨rfl, hb5⟩
  have g1 := HB4.out.size
  have HB5 := Lib.hid (HB4.out.trans (hb5.mono g1))
  have B1 := Lib.hid (A1.out.below' hb5)
  have B2 := Lib.hid (A2.out.below' hb5)
  have B3 := Lib.hid (A3.out.below' hb5)
  have B4 := Lib.hid (A4.out.below' hb5)
  clear hb5 g1 HB4 A1 A2 A3 A4 H2
  go_wp2
  all_goals
    go_ret
    exact ⟨rfl, HB5.out⟩
set_option maxHeartbeats 1000000 in
set_option maxRecDepth 100000 in
theorem bases_mid (n : Int) (w : World) (h : 30 ≤ n) (h1 : n < 257) (T0 : TabAt w 0 lb) (T1 : TabAt w 1 lx) (T2 : TabAt w 2 db) : Calls Tryd.prog 3 #[.int .i64 n] w fun e w' => e = .returned (.bool true) ∧ Below w.heap.size w w' := by
  have H0 := Lib.hid T0
  have H1 := Lib.hid T1
  have H2 := Lib.hid T2
  clear T0 T1 T2
  go_enter Tryd.func3, Tryd.ntmps3
  go_wp2_with fail
  refine (awake_any w).mono ?_
  rintro e w1 ⟨rfl, hb1⟩
  have HB1 := Lib.hid hb1
  have K0 := Lib.hid (H0.out.below hb1)
  have K1 := Lib.hid (H1.out.below hb1)
  have K2 := Lib.hid (H2.out.below hb1)
  clear hb1 H0 H1 H2
  go_wp2_with fail
  refine (lengths_any w1).mono ?_
  rintro e w2 ⟨rfl, hb2, hl1, hl2⟩
  have g1 := HB1.out.size
  have HB2 := Lib.hid (HB1.out.trans (hb2.mono g1))
  have H0 := Lib.hid (K0.out.below hb2)
  have H1 := Lib.hid (K1.out.below hb2)
  have H2 := Lib.hid (K2.out.below hb2)
  obtain ⟨p1, ep1⟩ : ∃ p, w1.heap.size = p := ⟨_, rfl⟩
  obtain ⟨p2, ep2⟩ : ∃ p, w1.heap.size + 1 = p := ⟨_, rfl⟩
  rw [ep1] at hl1 ⊢
  rw [show p1 + 1 = p2 from by omega]
  rw [ep2] at hl2
  have A1 := Lib.hid hl1
  have A2 := Lib.hid hl2
  clear hb2 hl1 hl2 ep1 ep2 g1 HB1 K0 K1 K2
  go_wp2_with fail
  refine (dists_any w2).mono ?_
  rintro e w3 ⟨rfl, hb3, hl1, hl2⟩
  have g1 := HB2.out.size
  have HB3 := Lib.hid (HB2.out.trans (hb3.mono g1))
  have K0 := Lib.hid (H0.out.below hb3)
  have K1 := Lib.hid (H1.out.below hb3)
  have K2 := Lib.hid (H2.out.below hb3)
  have B1 := Lib.hid (A1.out.below' hb3)
  have B2 := Lib.hid (A2.out.below' hb3)
  obtain ⟨p3, ep1⟩ : ∃ p, w2.heap.size = p := ⟨_, rfl⟩
  obtain ⟨p4, ep2⟩ : ∃ p, w2.heap.size + 1 = p := ⟨_, rfl⟩
  rw [ep1] at hl1 ⊢
  rw [show p3 + 1 = p4 from by omega]
  rw [ep2] at hl2
  have B3 := Lib.hid hl1
  have B4 := Lib.hid hl2
  clear hb3 hl1 hl2 ep1 ep2 g1 HB2 A1 A2 H0 H1 H2
  go_wp2_with fail
  refine (lengthBase_out n (by omega) w3).mono ?_
  rintro e w4 ⟨rfl, hb4⟩
  have g1 := HB3.out.size
  have HB4 := Lib.hid (HB3.out.trans (hb4.mono g1))
  have H2 := Lib.hid (K2.out.below hb4)
  have A1 := Lib.hid (B1.out.below' hb4)
  have A2 := Lib.hid (B2.out.below' hb4)
  have A3 := Lib.hid (B3.out.below' hb4)
  have A4 := Lib.hid (B4.out.below' hb4)
  clear hb4 g1 HB3 B1 B2 B3 B4 K0 K1 K2
  go_wp2_with fail
  refine (distBase_out n (by omega) w4).mono ?_
  rintro e w5 ⟨rfl, hb5⟩
  have g1 := HB4.out.size
  have HB5 := Lib.hid (HB4.out.trans (hb5.mono g1))
  have B1 := Lib.hid (A1.out.below' hb5)
  have B2 := Lib.hid (A2.out.below' hb5)
  have B3 := Lib.hid (A3.out.below' hb5)
  have B4 := Lib.hid (A4.out.below' hb5)
  clear hb5 g1 HB4 A1 A2 A3 A4 H2
  go_wp2
  all_goals
    go_ret
    exact ⟨rfl, HB5.out⟩
set_option maxHeartbeats 1000000 in
set_option maxRecDepth 100000 in
theorem bases_high (n : Int) (w : World) (h : 285 < n) (T0 : TabAt w 0 lb) (T1 : TabAt w 1 lx) (T2 : TabAt w 2 db) : Calls Tryd.prog 3 #[.int .i64 n] w fun e w' => e = .returned (.bool true) ∧ Below w.heap.size w w' := by
  have H0 := Lib.hid T0
  have H1 := Lib.hid T1
  have H2 := Lib.hid T2
  clear T0 T1 T2
  go_enter Tryd.func3, Tryd.ntmps3
  go_wp2_with fail
  refine (awake_any w).mono ?_
  rintro e w1 ⟨rfl, hb1⟩
  have HB1 := Lib.hid hb1
  have K0 := Lib.hid (H0.out.below hb1)
  have K1 := Lib.hid (H1.out.below hb1)
  have K2 := Lib.hid (H2.out.below hb1)
  clear hb1 H0 H1 H2
  go_wp2_with fail
  refine (lengths_any w1).mono ?_
  rintro e w2 ⟨rfl, hb2, hl1, hl2⟩
  have g1 := HB1.out.size
  have HB2 := Lib.hid (HB1.out.trans (hb2.mono g1))
  have H0 := Lib.hid (K0.out.below hb2)
  have H1 := Lib.hid (K1.out.below hb2)
  have H2 := Lib.hid (K2.out.below hb2)
  obtain ⟨p1, ep1⟩ : ∃ p, w1.heap.size = p := ⟨_, rfl⟩
  obtain ⟨p2, ep2⟩ : ∃ p, w1.heap.size + 1 = p := ⟨_, rfl⟩
  rw [ep1] at hl1 ⊢
  rw [show p1 + 1 = p2 from by omega]
  rw [ep2] at hl2
  have A1 := Lib.hid hl1
  have A2 := Lib.hid hl2
  clear hb2 hl1 hl2 ep1 ep2 g1 HB1 K0 K1 K2
  go_wp2_with fail
  refine (dists_any w2).mono ?_
  rintro e w3 ⟨rfl, hb3, hl1, hl2⟩
  have g1 := HB2.out.size
  have HB3 := Lib.hid (HB2.out.trans (hb3.mono g1))
  have K0 := Lib.hid (H0.out.below hb3)
  have K1 := Lib.hid (H1.out.below hb3)
  have K2 := Lib.hid (H2.out.below hb3)
  have B1 := Lib.hid (A1.out.below' hb3)
  have B2 := Lib.hid (A2.out.below' hb3)
  obtain ⟨p3, ep1⟩ : ∃ p, w2.heap.size = p := ⟨_, rfl⟩
  obtain ⟨p4, ep2⟩ : ∃ p, w2.heap.size + 1 = p := ⟨_, rfl⟩
  rw [ep1] at hl1 ⊢
  rw [show p3 + 1 = p4 from by omega]
  rw [ep2] at hl2
  have B3 := Lib.hid hl1
  have B4 := Lib.hid hl2
  clear hb3 hl1 hl2 ep1 ep2 g1 HB2 A1 A2 H0 H1 H2
  go_wp2_with fail
  refine (lengthBase_out n (by omega) w3).mono ?_
  rintro e w4 ⟨rfl, hb4⟩
  have g1 := HB3.out.size
  have HB4 := Lib.hid (HB3.out.trans (hb4.mono g1))
  have H2 := Lib.hid (K2.out.below hb4)
  have A1 := Lib.hid (B1.out.below' hb4)
  have A2 := Lib.hid (B2.out.below' hb4)
  have A3 := Lib.hid (B3.out.below' hb4)
  have A4 := Lib.hid (B4.out.below' hb4)
  clear hb4 g1 HB3 B1 B2 B3 B4 K0 K1 K2
  go_wp2_with fail
  refine (distBase_out n (by omega) w4).mono ?_
  rintro e w5 ⟨rfl, hb5⟩
  have g1 := HB4.out.size
  have HB5 := Lib.hid (HB4.out.trans (hb5.mono g1))
  have B1 := Lib.hid (A1.out.below' hb5)
  have B2 := Lib.hid (A2.out.below' hb5)
  have B3 := Lib.hid (A3.out.below' hb5)
  have B4 := Lib.hid (A4.out.below' hb5)
  clear hb5 g1 HB4 A1 A2 A3 A4 H2
  go_wp2
  all_goals
    go_ret
    exact ⟨rfl, HB5.out⟩
theorem bases_any (n : Int) (w : World) (T0 : TabAt w 0 lb) (T1 : TabAt w 1 lx) (T2 : TabAt w 2 db) : Calls Tryd.prog 3 #[.int .i64 n] w fun e w' => e = .returned (.bool true) ∧ Below w.heap.size w w' := by
  rcases Int.lt_or_le n 0 with a | a
  · exact bases_low n w a T0 T1 T2
  rcases Int.lt_or_le n 30 with b | b
  · exact bases_dist n w n.toNat (by omega) (by omega) T0 T1 T2
  rcases Int.lt_or_le n 257 with c | c
  · exact bases_mid n w (by omega) (by omega) T0 T1 T2
  rcases Int.lt_or_le 285 n with d | d
  · exact bases_high n w d T0 T1 T2
  · exact bases_length n w (n - 257).toNat (by omega) (by omega) T0 T1 T2
end Go.Proofs.YtgncenladhempaaDoor
