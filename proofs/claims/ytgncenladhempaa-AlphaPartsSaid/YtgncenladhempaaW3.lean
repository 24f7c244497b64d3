/- AlphaParts, for every number. -/
import Derived.Test.YtgncenladhempaaW2
namespace Go.Proofs.Ytgncenladhempaa
open Go.RowKit

set_option maxRecDepth 100000 in
theorem eq_part (w : World) (a b c a' b' c' : Int) : (Op.equalIn 10000 27 (.agg #[.int .i64 a, .int .i64 b, .int .i64 c]) (.agg #[.int .i64 a', .int .i64 b', .int .i64 c'])).run Try.prog w = .ok (a == a' && (b == b' && c == c')) w := by
  cases h1 : (a == a') <;> cases h2 : (b == b') <;> cases h3 : (c == c') <;> simp [go_sem, h1, h2, h3]
theorem eq_self (a b c : Int) (w : World) : (Op.equalIn 10000 27 (.agg #[.int .i64 a, .int .i64 b, .int .i64 c]) (.agg #[.int .i64 a, .int .i64 b, .int .i64 c])).run Try.prog w = .ok true w := by
  rw [eq_part]
  simp
set_option maxHeartbeats 400000 in
theorem awake_any (w : World) : Calls Try.prog 4 #[] w fun e w' => e = .returned (.bool true) ∧ Below w.heap.size w w' := by
  have e1 : lengthV 10 = part 264 0 0 true := by unfold lengthV; rw [if_pos (by omega), show findN lb 10 29 = 7 from by decide]; rfl
  have e2 : distV 5 = part 4 1 0 true := by unfold distV; rw [if_pos (by omega), show findN db 5 30 = 4 from by decide]; rfl
  go_enter Try.func4, Try.ntmps4
  go_wp2_with fail
  refine (length_any 10 w (by omega)).mono ?_
  rw [e1]
  rintro e w1 ⟨rfl, hb1⟩
  have HB1 := Lib.hid hb1
  clear hb1
  go_wp2_with fail
  refine (dist_any 5 _ (by omega)).mono ?_
  rw [e2]
  rintro e w2 ⟨rfl, hb2⟩
  have HB2 := Lib.hid ((HB1.out.alloc HB1.out.size _).trans (hb2.mono (by simp; have := HB1.out.size; omega)))
  have T1 := Lib.hid ((Whole.new w1 27 _ rfl).below' hb2)
  clear hb2 HB1
  have c0 := T1.out.cell 0
  have c1 := T1.out.cell 1
  have c2 := T1.out.cell 2
  have lt := T1.out.lt
  go_wp2
  go_ret
  exact ⟨rfl, HB2.out.alloc HB2.out.size _⟩
set_option maxHeartbeats 1000000 in
set_option maxRecDepth 100000 in
theorem parts_low (n : Int) (w : World) (h1 : -9223372036854775808 ≤ n) (h2 : n ≤ 0) : Calls Try.prog 3 #[.int .i64 n] w fun e w' => e = .returned (.bool true) ∧ Below w.heap.size w w' := by
  have f1 := findN_lt lb n 29 (by omega)
  have f2 := findN_lt db n 30 (by omega)
  obtain ⟨i1, hi1⟩ : ∃ x, findN lb n 29 = x := ⟨_, rfl⟩
  obtain ⟨i2, hi2⟩ : ∃ x, findN db n 30 = x := ⟨_, rfl⟩
  obtain ⟨a1, ha1⟩ : ∃ x, lb.getD i1 0 = x := ⟨_, rfl⟩
  obtain ⟨a2, ha2⟩ : ∃ x, lx.getD i1 0 = x := ⟨_, rfl⟩
  obtain ⟨a3, ha3⟩ : ∃ x, db.getD i2 0 = x := ⟨_, rfl⟩
  obtain ⟨a4, ha4⟩ : ∃ x, dx.getD i2 0 = x := ⟨_, rfl⟩
  have bd1 : ∀ j, j < 29 → 0 ≤ lb.getD j 0 ∧ lb.getD j 0 ≤ 258 := by decide
  have bd2 : ∀ j, j < 30 → 0 ≤ db.getD j 0 ∧ db.getD j 0 ≤ 24577 := by decide
  have ba1 := bd1 i1 (by omega)
  have ba2 := bd2 i2 (by omega)
  clear bd1 bd2
  rw [ha1] at ba1
  rw [ha3] at ba2
  obtain ⟨q1, hq1⟩ : ∃ x, 257 + (i1 : Int) = x := ⟨_, rfl⟩
  obtain ⟨r1, hr1⟩ : ∃ x, n - a1 = x := ⟨_, rfl⟩
  obtain ⟨r2, hr2⟩ : ∃ x, n - a3 = x := ⟨_, rfl⟩
  have e1 : lengthV n = part 0 0 0 false := by unfold lengthV; rw [if_neg (by omega)]
  have e2 : distV n = part 0 0 0 false := by unfold distV; rw [if_neg (by omega)]
  have bq : q1 < 300 := by omega
  clear ba1 ba2
  have Q1 := eq_self 0 0 0
  have Q2 := eq_self 0 0 0
  have G1 := Lib.hid hi1
  have G2 := Lib.hid hi2
  have G3 := Lib.hid ha1
  have G4 := Lib.hid ha2
  have G5 := Lib.hid ha3
  have G6 := Lib.hid ha4
  rw [hi1] at f1
  rw [hi2] at f2
  clear hi1 hi2 ha1 ha2 ha3 ha4
  go_enter Try.func3, Try.ntmps3
  go_wp2_with fail
  refine (awake_any w).mono ?_
  rintro e w1 ⟨rfl, hb1⟩
  have HB1 := Lib.hid hb1
  clear hb1
  go_wp2_with fail
  refine (lengths_any w1).mono ?_
  rintro e w2 ⟨rfl, hb2, hl1, hl2⟩
  have g1 := HB1.out.size
  have HB2 := Lib.hid (HB1.out.trans (hb2.mono g1))
  obtain ⟨p1, ep1⟩ : ∃ p, w1.heap.size = p := ⟨_, rfl⟩
  obtain ⟨p2, ep2⟩ : ∃ p, w1.heap.size + 1 = p := ⟨_, rfl⟩
  rw [ep1] at hl1 ⊢
  rw [show p1 + 1 = p2 from by omega]
  rw [ep2] at hl2
  have A1 := Lib.hid hl1
  have A2 := Lib.hid hl2
  clear hb2 hl1 hl2 ep1 ep2 g1 HB1
  go_wp2_with fail
  refine (dists_any w2).mono ?_
  rintro e w3 ⟨rfl, hb3, hl1, hl2⟩
  have g1 := HB2.out.size
  have HB3 := Lib.hid (HB2.out.trans (hb3.mono g1))
  have B1 := Lib.hid (A1.out.below' hb3)
  have B2 := Lib.hid (A2.out.below' hb3)
  obtain ⟨p3, ep1⟩ : ∃ p, w2.heap.size = p := ⟨_, rfl⟩
  obtain ⟨p4, ep2⟩ : ∃ p, w2.heap.size + 1 = p := ⟨_, rfl⟩
  rw [ep1] at hl1 ⊢
  rw [show p3 + 1 = p4 from by omega]
  rw [ep2] at hl2
  have B3 := Lib.hid hl1
  have B4 := Lib.hid hl2
  clear hb3 hl1 hl2 ep1 ep2 g1 HB2 A1 A2
  go_wp2_with fail
  refine (length_any n w3 (by omega)).mono ?_
  rw [e1]
  rintro e w4 ⟨rfl, hb4⟩
  have g1 := HB3.out.size
  have HB4 := Lib.hid (HB3.out.trans (hb4.mono g1))
  have A1 := Lib.hid (B1.out.below' hb4)
  have A2 := Lib.hid (B2.out.below' hb4)
  have A3 := Lib.hid (B3.out.below' hb4)
  have A4 := Lib.hid (B4.out.below' hb4)
  clear hb4 g1 HB3 B1 B2 B3 B4 e1
  go_wp2_with fail
  refine (dist_any n _ (by omega)).mono ?_
  rw [e2]
  rintro e w5 ⟨rfl, hb5⟩
  have g1 := HB4.out.size
  have HB5 := Lib.hid ((HB4.out.alloc g1 _).trans (hb5.mono (by simp; omega)))
  have B0 := Lib.hid ((Whole.new w4 27 _ rfl).below' hb5)
  have B1 := Lib.hid ((A1.out.alloc _).below' hb5)
  have B2 := Lib.hid ((A2.out.alloc _).below' hb5)
  have B3 := Lib.hid ((A3.out.alloc _).below' hb5)
  have B4 := Lib.hid ((A4.out.alloc _).below' hb5)
  clear hb5 g1 HB4 A1 A2 A3 A4 e2
  generalize w4.heap.size = p0 at *
  have cx1 := fun o1 o2 o3 => int_cell (((B1.out.alloc o1).alloc o2).alloc o3) (k := i1) (by exact f1)
  have cx2 := fun o1 o2 o3 => int_cell (((B2.out.alloc o1).alloc o2).alloc o3) (k := i1) (by exact f1)
  have cx3 := fun o1 o2 o3 => int_cell (((B3.out.alloc o1).alloc o2).alloc o3) (k := i2) (by exact f2)
  have cx4 := fun o1 o2 o3 => int_cell (((B4.out.alloc o1).alloc o2).alloc o3) (k := i2) (by exact f2)
  simp only [G3.out] at cx1
  simp only [G4.out] at cx2
  simp only [G5.out] at cx3
  simp only [G6.out] at cx4
  have y1 : (0 : Int) ≤ (i1 : Int) := by omega
  have y2 : (i1 : Int) < 29 := by omega
  have y3 : (0 : Int) ≤ (i2 : Int) := by omega
  have y4 : (i2 : Int) < 30 := by omega
  have z0 : ∀ o1 o2 o3, (((w5.alloc o1).alloc o2).alloc o3).cell? ⟨p0, 0, none⟩ = some (.int .i64 (0)) := fun o1 o2 o3 => (((B0.out.alloc o1).alloc o2).alloc o3).cell 0
  have z1 : ∀ o1 o2 o3, (((w5.alloc o1).alloc o2).alloc o3).cell? ⟨p0, 1, none⟩ = some (.int .i64 (0)) := fun o1 o2 o3 => (((B0.out.alloc o1).alloc o2).alloc o3).cell 1
  have z2 : ∀ o1 o2 o3, (((w5.alloc o1).alloc o2).alloc o3).cell? ⟨p0, 2, none⟩ = some (.int .i64 (0)) := fun o1 o2 o3 => (((B0.out.alloc o1).alloc o2).alloc o3).cell 2
  have l0 := B0.out.lt
  have l1 := B1.out.lt
  have l2 := B2.out.lt
  have l3 := B3.out.lt
  have l4 := B4.out.lt
  have F1 := fun w' h => find_any p1 29 29 lb n w' h rfl (by omega)
  have F2 := fun w' h => find_any p3 30 30 db n w' h rfl (by omega)
  have E1 := Lib.hid F1
  have E2 := Lib.hid F2
  clear F1 F2
  go_wp2_with fail
  refine (E1.out _ (by exact B1.out.alloc _)).mono ?_
  rw [G1.out]
  rintro e w6 ⟨rfl, rfl⟩
  go_wp2_with fail
  refine (E2.out _ (by exact B3.out.alloc _)).mono ?_
  rw [G2.out]
  rintro e w6 ⟨rfl, rfl⟩
  clear E1 E2
  go_wp2
  go_ret
  have g := HB5.out.size
  exact ⟨rfl, (((HB5.out.alloc g _).alloc (by simp; omega) _).alloc (by simp; omega) _)⟩
set_option maxHeartbeats 1000000 in
set_option maxRecDepth 100000 in
theorem parts_one (n : Int) (w : World) (h1 : 1 ≤ n) (h2 : n ≤ 2) : Calls Try.prog 3 #[.int .i64 n] w fun e w' => e = .returned (.bool true) ∧ Below w.heap.size w w' := by
  have f1 := findN_lt lb n 29 (by omega)
  have f2 := findN_lt db n 30 (by omega)
  obtain ⟨i1, hi1⟩ : ∃ x, findN lb n 29 = x := ⟨_, rfl⟩
  obtain ⟨i2, hi2⟩ : ∃ x, findN db n 30 = x := ⟨_, rfl⟩
  obtain ⟨a1, ha1⟩ : ∃ x, lb.getD i1 0 = x := ⟨_, rfl⟩
  obtain ⟨a2, ha2⟩ : ∃ x, lx.getD i1 0 = x := ⟨_, rfl⟩
  obtain ⟨a3, ha3⟩ : ∃ x, db.getD i2 0 = x := ⟨_, rfl⟩
  obtain ⟨a4, ha4⟩ : ∃ x, dx.getD i2 0 = x := ⟨_, rfl⟩
  have bd1 : ∀ j, j < 29 → 0 ≤ lb.getD j 0 ∧ lb.getD j 0 ≤ 258 := by decide
  have bd2 : ∀ j, j < 30 → 0 ≤ db.getD j 0 ∧ db.getD j 0 ≤ 24577 := by decide
  have ba1 := bd1 i1 (by omega)
  have ba2 := bd2 i2 (by omega)
  clear bd1 bd2
  rw [ha1] at ba1
  rw [ha3] at ba2
  obtain ⟨q1, hq1⟩ : ∃ x, 257 + (i1 : Int) = x := ⟨_, rfl⟩
  obtain ⟨r1, hr1⟩ : ∃ x, n - a1 = x := ⟨_, rfl⟩
  obtain ⟨r2, hr2⟩ : ∃ x, n - a3 = x := ⟨_, rfl⟩
  have e1 : lengthV n = part 0 0 0 false := by unfold lengthV; rw [if_neg (by omega)]
  have e2 : distV n = part i2 a4 r2 true := by unfold distV; rw [if_pos (by omega), hi2, ha3, ha4, hr2]
  have br2 : -9223372036854775808 ≤ r2 ∧ r2 ≤ 9223372036854775807 := by omega
  have wr2 : wrap64 r2 = r2 := by unfold wrap64; omega
  clear br2
  have bq : q1 < 300 := by omega
  clear ba1 ba2
  have Q1 := eq_self 0 0 0
  have Q2 := eq_self i2 a4 r2
  have G1 := Lib.hid hi1
  have G2 := Lib.hid hi2
  have G3 := Lib.hid ha1
  have G4 := Lib.hid ha2
  have G5 := Lib.hid ha3
  have G6 := Lib.hid ha4
  rw [hi1] at f1
  rw [hi2] at f2
  clear hi1 hi2 ha1 ha2 ha3 ha4
  go_enter Try.func3, Try.ntmps3
  go_wp2_with fail
  refine (awake_any w).mono ?_
  rintro e w1 ⟨rfl, hb1⟩
  have HB1 := Lib.hid hb1
  clear hb1
  go_wp2_with fail
  refine (lengths_any w1).mono ?_
  rintro e w2 ⟨rfl, hb2, hl1, hl2⟩
  have g1 := HB1.out.size
  have HB2 := Lib.hid (HB1.out.trans (hb2.mono g1))
  obtain ⟨p1, ep1⟩ : ∃ p, w1.heap.size = p := ⟨_, rfl⟩
  obtain ⟨p2, ep2⟩ : ∃ p, w1.heap.size + 1 = p := ⟨_, rfl⟩
  rw [ep1] at hl1 ⊢
  rw [show p1 + 1 = p2 from by omega]
  rw [ep2] at hl2
  have A1 := Lib.hid hl1
  have A2 := Lib.hid hl2
  clear hb2 hl1 hl2 ep1 ep2 g1 HB1
  go_wp2_with fail
  refine (dists_any w2).mono ?_
  rintro e w3 ⟨rfl, hb3, hl1, hl2⟩
  have g1 := HB2.out.size
  have HB3 := Lib.hid (HB2.out.trans (hb3.mono g1))
  have B1 := Lib.hid (A1.out.below' hb3)
  have B2 := Lib.hid (A2.out.below' hb3)
  obtain ⟨p3, ep1⟩ : ∃ p, w2.heap.size = p := ⟨_, rfl⟩
  obtain ⟨p4, ep2⟩ : ∃ p, w2.heap.size + 1 = p := ⟨_, rfl⟩
  rw [ep1] at hl1 ⊢
  rw [show p3 + 1 = p4 from by omega]
  rw [ep2] at hl2
  have B3 := Lib.hid hl1
  have B4 := Lib.hid hl2
  clear hb3 hl1 hl2 ep1 ep2 g1 HB2 A1 A2
  go_wp2_with fail
  refine (length_any n w3 (by omega)).mono ?_
  rw [e1]
  rintro e w4 ⟨rfl, hb4⟩
  have g1 := HB3.out.size
  have HB4 := Lib.hid (HB3.out.trans (hb4.mono g1))
  have A1 := Lib.hid (B1.out.below' hb4)
  have A2 := Lib.hid (B2.out.below' hb4)
  have A3 := Lib.hid (B3.out.below' hb4)
  have A4 := Lib.hid (B4.out.below' hb4)
  clear hb4 g1 HB3 B1 B2 B3 B4 e1
  go_wp2_with fail
  refine (dist_any n _ (by omega)).mono ?_
  rw [e2]
  rintro e w5 ⟨rfl, hb5⟩
  have g1 := HB4.out.size
  have HB5 := Lib.hid ((HB4.out.alloc g1 _).trans (hb5.mono (by simp; omega)))
  have B0 := Lib.hid ((Whole.new w4 27 _ rfl).below' hb5)
  have B1 := Lib.hid ((A1.out.alloc _).below' hb5)
  have B2 := Lib.hid ((A2.out.alloc _).below' hb5)
  have B3 := Lib.hid ((A3.out.alloc _).below' hb5)
  have B4 := Lib.hid ((A4.out.alloc _).below' hb5)
  clear hb5 g1 HB4 A1 A2 A3 A4 e2
  generalize w4.heap.size = p0 at *
  have cx1 := fun o1 o2 o3 => int_cell (((B1.out.alloc o1).alloc o2).alloc o3) (k := i1) (by exact f1)
  have cx2 := fun o1 o2 o3 => int_cell (((B2.out.alloc o1).alloc o2).alloc o3) (k := i1) (by exact f1)
  have cx3 := fun o1 o2 o3 => int_cell (((B3.out.alloc o1).alloc o2).alloc o3) (k := i2) (by exact f2)
  have cx4 := fun o1 o2 o3 => int_cell (((B4.out.alloc o1).alloc o2).alloc o3) (k := i2) (by exact f2)
  simp only [G3.out] at cx1
  simp only [G4.out] at cx2
  simp only [G5.out] at cx3
  simp only [G6.out] at cx4
  have y1 : (0 : Int) ≤ (i1 : Int) := by omega
  have y2 : (i1 : Int) < 29 := by omega
  have y3 : (0 : Int) ≤ (i2 : Int) := by omega
  have y4 : (i2 : Int) < 30 := by omega
  have z0 : ∀ o1 o2 o3, (((w5.alloc o1).alloc o2).alloc o3).cell? ⟨p0, 0, none⟩ = some (.int .i64 (0)) := fun o1 o2 o3 => (((B0.out.alloc o1).alloc o2).alloc o3).cell 0
  have z1 : ∀ o1 o2 o3, (((w5.alloc o1).alloc o2).alloc o3).cell? ⟨p0, 1, none⟩ = some (.int .i64 (0)) := fun o1 o2 o3 => (((B0.out.alloc o1).alloc o2).alloc o3).cell 1
  have z2 : ∀ o1 o2 o3, (((w5.alloc o1).alloc o2).alloc o3).cell? ⟨p0, 2, none⟩ = some (.int .i64 (0)) := fun o1 o2 o3 => (((B0.out.alloc o1).alloc o2).alloc o3).cell 2
  have l0 := B0.out.lt
  have l1 := B1.out.lt
  have l2 := B2.out.lt
  have l3 := B3.out.lt
  have l4 := B4.out.lt
  have F1 := fun w' h => find_any p1 29 29 lb n w' h rfl (by omega)
  have F2 := fun w' h => find_any p3 30 30 db n w' h rfl (by omega)
  have E1 := Lib.hid F1
  have E2 := Lib.hid F2
  clear F1 F2
  go_wp2_with fail
  refine (E1.out _ (by exact B1.out.alloc _)).mono ?_
  rw [G1.out]
  rintro e w6 ⟨rfl, rfl⟩
  go_wp2_with fail
  refine (E2.out _ (by exact B3.out.alloc _)).mono ?_
  rw [G2.out]
  rintro e w6 ⟨rfl, rfl⟩
  clear E1 E2
  go_wp2
  refine wp_region_tail 11 (by kernel_rfl) (by kernel_rfl) ?_
  simp only [List.take_succ_cons, List.take_zero, List.drop_succ_cons, List.drop_zero]
  repeat still_step
  refine wpStill_nil ?_
  go_wp2
  go_ret
  have g := HB5.out.size
  exact ⟨rfl, (((HB5.out.alloc g _).alloc (by simp; omega) _).alloc (by simp; omega) _).drewN' 1⟩
set_option maxHeartbeats 1000000 in
set_option maxRecDepth 100000 in
theorem parts_mid (n : Int) (w : World) (h1 : 3 ≤ n) (h2 : n ≤ 258) : Calls Try.prog 3 #[.int .i64 n] w fun e w' => e = .returned (.bool true) ∧ Below w.heap.size w w' := by
  have f1 := findN_lt lb n 29 (by omega)
  have f2 := findN_lt db n 30 (by omega)
  obtain ⟨i1, hi1⟩ : ∃ x, findN lb n 29 = x := ⟨_, rfl⟩
  obtain ⟨i2, hi2⟩ : ∃ x, findN db n 30 = x := ⟨_, rfl⟩
  obtain ⟨a1, ha1⟩ : ∃ x, lb.getD i1 0 = x := ⟨_, rfl⟩
  obtain ⟨a2, ha2⟩ : ∃ x, lx.getD i1 0 = x := ⟨_, rfl⟩
  obtain ⟨a3, ha3⟩ : ∃ x, db.getD i2 0 = x := ⟨_, rfl⟩
  obtain ⟨a4, ha4⟩ : ∃ x, dx.getD i2 0 = x := ⟨_, rfl⟩
  have bd1 : ∀ j, j < 29 → 0 ≤ lb.getD j 0 ∧ lb.getD j 0 ≤ 258 := by decide
  have bd2 : ∀ j, j < 30 → 0 ≤ db.getD j 0 ∧ db.getD j 0 ≤ 24577 := by decide
  have ba1 := bd1 i1 (by omega)
  have ba2 := bd2 i2 (by omega)
  clear bd1 bd2
  rw [ha1] at ba1
  rw [ha3] at ba2
  obtain ⟨q1, hq1⟩ : ∃ x, 257 + (i1 : Int) = x := ⟨_, rfl⟩
  obtain ⟨r1, hr1⟩ : ∃ x, n - a1 = x := ⟨_, rfl⟩
  obtain ⟨r2, hr2⟩ : ∃ x, n - a3 = x := ⟨_, rfl⟩
  have e1 : lengthV n = part q1 a2 r1 true := by unfold lengthV; rw [if_pos (by omega), hi1, ha1, ha2, hq1, hr1]
  have e2 : distV n = part i2 a4 r2 true := by unfold distV; rw [if_pos (by omega), hi2, ha3, ha4, hr2]
  have br1 : -9223372036854775808 ≤ r1 ∧ r1 ≤ 9223372036854775807 := by omega
  have wr1 : wrap64 r1 = r1 := by unfold wrap64; omega
  clear br1
  have br2 : -9223372036854775808 ≤ r2 ∧ r2 ≤ 9223372036854775807 := by omega
  have wr2 : wrap64 r2 = r2 := by unfold wrap64; omega
  clear br2
  have bq : q1 < 300 := by omega
  clear ba1 ba2
  have Q1 := eq_self q1 a2 r1
  have Q2 := eq_self i2 a4 r2
  have G1 := Lib.hid hi1
  have G2 := Lib.hid hi2
  have G3 := Lib.hid ha1
  have G4 := Lib.hid ha2
  have G5 := Lib.hid ha3
  have G6 := Lib.hid ha4
  rw [hi1] at f1
  rw [hi2] at f2
  clear hi1 hi2 ha1 ha2 ha3 ha4
  go_enter Try.func3, Try.ntmps3
  go_wp2_with fail
  refine (awake_any w).mono ?_
  rintro e w1 ⟨rfl, hb1⟩
  have HB1 := Lib.hid hb1
  clear hb1
  go_wp2_with fail
  refine (lengths_any w1).mono ?_
  rintro e w2 ⟨rfl, hb2, hl1, hl2⟩
  have g1 := HB1.out.size
  have HB2 := Lib.hid (HB1.out.trans (hb2.mono g1))
  obtain ⟨p1, ep1⟩ : ∃ p, w1.heap.size = p := ⟨_, rfl⟩
  obtain ⟨p2, ep2⟩ : ∃ p, w1.heap.size + 1 = p := ⟨_, rfl⟩
  rw [ep1] at hl1 ⊢
  rw [show p1 + 1 = p2 from by omega]
  rw [ep2] at hl2
  have A1 := Lib.hid hl1
  have A2 := Lib.hid hl2
  clear hb2 hl1 hl2 ep1 ep2 g1 HB1
  go_wp2_with fail
  refine (dists_any w2).mono ?_
  rintro e w3 ⟨rfl, hb3, hl1, hl2⟩
  have g1 := HB2.out.size
  have HB3 := Lib.hid (HB2.out.trans (hb3.mono g1))
  have B1 := Lib.hid (A1.out.below' hb3)
  have B2 := Lib.hid (A2.out.below' hb3)
  obtain ⟨p3, ep1⟩ : ∃ p, w2.heap.size = p := ⟨_, rfl⟩
  obtain ⟨p4, ep2⟩ : ∃ p, w2.heap.size + 1 = p := ⟨_, rfl⟩
  rw [ep1] at hl1 ⊢
  rw [show p3 + 1 = p4 from by omega]
  rw [ep2] at hl2
  have B3 := Lib.hid hl1
  have B4 := Lib.hid hl2
  clear hb3 hl1 hl2 ep1 ep2 g1 HB2 A1 A2
  go_wp2_with fail
  refine (length_any n w3 (by omega)).mono ?_
  rw [e1]
  rintro e w4 ⟨rfl, hb4⟩
  have g1 := HB3.out.size
  have HB4 := Lib.hid (HB3.out.trans (hb4.mono g1))
  have A1 := Lib.hid (B1.out.below' hb4)
  have A2 := Lib.hid (B2.out.below' hb4)
  have A3 := Lib.hid (B3.out.below' hb4)
  have A4 := Lib.hid (B4.out.below' hb4)
  clear hb4 g1 HB3 B1 B2 B3 B4 e1
  go_wp2_with fail
  refine (dist_any n _ (by omega)).mono ?_
  rw [e2]
  rintro e w5 ⟨rfl, hb5⟩
  have g1 := HB4.out.size
  have HB5 := Lib.hid ((HB4.out.alloc g1 _).trans (hb5.mono (by simp; omega)))
  have B0 := Lib.hid ((Whole.new w4 27 _ rfl).below' hb5)
  have B1 := Lib.hid ((A1.out.alloc _).below' hb5)
  have B2 := Lib.hid ((A2.out.alloc _).below' hb5)
  have B3 := Lib.hid ((A3.out.alloc _).below' hb5)
  have B4 := Lib.hid ((A4.out.alloc _).below' hb5)
  clear hb5 g1 HB4 A1 A2 A3 A4 e2
  generalize w4.heap.size = p0 at *
  have cx1 := fun o1 o2 o3 => int_cell (((B1.out.alloc o1).alloc o2).alloc o3) (k := i1) (by exact f1)
  have cx2 := fun o1 o2 o3 => int_cell (((B2.out.alloc o1).alloc o2).alloc o3) (k := i1) (by exact f1)
  have cx3 := fun o1 o2 o3 => int_cell (((B3.out.alloc o1).alloc o2).alloc o3) (k := i2) (by exact f2)
  have cx4 := fun o1 o2 o3 => int_cell (((B4.out.alloc o1).alloc o2).alloc o3) (k := i2) (by exact f2)
  simp only [G3.out] at cx1
  simp only [G4.out] at cx2
  simp only [G5.out] at cx3
  simp only [G6.out] at cx4
  have y1 : (0 : Int) ≤ (i1 : Int) := by omega
  have y2 : (i1 : Int) < 29 := by omega
  have y3 : (0 : Int) ≤ (i2 : Int) := by omega
  have y4 : (i2 : Int) < 30 := by omega
  have z0 : ∀ o1 o2 o3, (((w5.alloc o1).alloc o2).alloc o3).cell? ⟨p0, 0, none⟩ = some (.int .i64 (q1)) := fun o1 o2 o3 => (((B0.out.alloc o1).alloc o2).alloc o3).cell 0
  have z1 : ∀ o1 o2 o3, (((w5.alloc o1).alloc o2).alloc o3).cell? ⟨p0, 1, none⟩ = some (.int .i64 (a2)) := fun o1 o2 o3 => (((B0.out.alloc o1).alloc o2).alloc o3).cell 1
  have z2 : ∀ o1 o2 o3, (((w5.alloc o1).alloc o2).alloc o3).cell? ⟨p0, 2, none⟩ = some (.int .i64 (r1)) := fun o1 o2 o3 => (((B0.out.alloc o1).alloc o2).alloc o3).cell 2
  have l0 := B0.out.lt
  have l1 := B1.out.lt
  have l2 := B2.out.lt
  have l3 := B3.out.lt
  have l4 := B4.out.lt
  have F1 := fun w' h => find_any p1 29 29 lb n w' h rfl (by omega)
  have F2 := fun w' h => find_any p3 30 30 db n w' h rfl (by omega)
  have E1 := Lib.hid F1
  have E2 := Lib.hid F2
  clear F1 F2
  go_wp2_with fail
  refine (E1.out _ (by exact B1.out.alloc _)).mono ?_
  rw [G1.out]
  rintro e w6 ⟨rfl, rfl⟩
  go_wp2_with fail
  refine (E2.out _ (by exact B3.out.alloc _)).mono ?_
  rw [G2.out]
  rintro e w6 ⟨rfl, rfl⟩
  clear E1 E2
  go_wp2
  refine wp_region_tail 12 (by kernel_rfl) (by kernel_rfl) ?_
  simp only [List.take_succ_cons, List.take_zero, List.drop_succ_cons, List.drop_zero]
  repeat still_step
  refine wpStill_nil ?_
  go_wp2
  refine wp_region_tail 11 (by kernel_rfl) (by kernel_rfl) ?_
  simp only [List.take_succ_cons, List.take_zero, List.drop_succ_cons, List.drop_zero]
  repeat still_step
  refine wpStill_nil ?_
  go_wp2
  go_ret
  have g := HB5.out.size
  exact ⟨rfl, (((HB5.out.alloc g _).alloc (by simp; omega) _).alloc (by simp; omega) _).drewN' 2⟩
set_option maxHeartbeats 1000000 in
set_option maxRecDepth 100000 in
theorem parts_far (n : Int) (w : World) (h1 : 259 ≤ n) (h2 : n ≤ 32768) : Calls Try.prog 3 #[.int .i64 n] w fun e w' => e = .returned (.bool true) ∧ Below w.heap.size w w' := by
  have f1 := findN_lt lb n 29 (by omega)
  have f2 := findN_lt db n 30 (by omega)
  obtain ⟨i1, hi1⟩ : ∃ x, findN lb n 29 = x := ⟨_, rfl⟩
  obtain ⟨i2, hi2⟩ : ∃ x, findN db n 30 = x := ⟨_, rfl⟩
  obtain ⟨a1, ha1⟩ : ∃ x, lb.getD i1 0 = x := ⟨_, rfl⟩
  obtain ⟨a2, ha2⟩ : ∃ x, lx.getD i1 0 = x := ⟨_, rfl⟩
  obtain ⟨a3, ha3⟩ : ∃ x, db.getD i2 0 = x := ⟨_, rfl⟩
  obtain ⟨a4, ha4⟩ : ∃ x, dx.getD i2 0 = x := ⟨_, rfl⟩
  have bd1 : ∀ j, j < 29 → 0 ≤ lb.getD j 0 ∧ lb.getD j 0 ≤ 258 := by decide
  have bd2 : ∀ j, j < 30 → 0 ≤ db.getD j 0 ∧ db.getD j 0 ≤ 24577 := by decide
  have ba1 := bd1 i1 (by omega)
  have ba2 := bd2 i2 (by omega)
  clear bd1 bd2
  rw [ha1] at ba1
  rw [ha3] at ba2
  obtain ⟨q1, hq1⟩ : ∃ x, 257 + (i1 : Int) = x := ⟨_, rfl⟩
  obtain ⟨r1, hr1⟩ : ∃ x, n - a1 = x := ⟨_, rfl⟩
  obtain ⟨r2, hr2⟩ : ∃ x, n - a3 = x := ⟨_, rfl⟩
  have e1 : lengthV n = part 0 0 0 false := by unfold lengthV; rw [if_neg (by omega)]
  have e2 : distV n = part i2 a4 r2 true := by unfold distV; rw [if_pos (by omega), hi2, ha3, ha4, hr2]
  have br2 : -9223372036854775808 ≤ r2 ∧ r2 ≤ 9223372036854775807 := by omega
  have wr2 : wrap64 r2 = r2 := by unfold wrap64; omega
  clear br2
  have bq : q1 < 300 := by omega
  clear ba1 ba2
  have dd258 : decide (n ≤ 258) = false := by simp; omega
  have Q1 := eq_self 0 0 0
  have Q2 := eq_self i2 a4 r2
  have G1 := Lib.hid hi1
  have G2 := Lib.hid hi2
  have G3 := Lib.hid ha1
  have G4 := Lib.hid ha2
  have G5 := Lib.hid ha3
  have G6 := Lib.hid ha4
  rw [hi1] at f1
  rw [hi2] at f2
  clear hi1 hi2 ha1 ha2 ha3 ha4
  go_enter Try.func3, Try.ntmps3
  go_wp2_with fail
  refine (awake_any w).mono ?_
  rintro e w1 ⟨rfl, hb1⟩
  have HB1 := Lib.hid hb1
  clear hb1
  go_wp2_with fail
  refine (lengths_any w1).mono ?_
  rintro e w2 ⟨rfl, hb2, hl1, hl2⟩
  have g1 := HB1.out.size
  have HB2 := Lib.hid (HB1.out.trans (hb2.mono g1))
  obtain ⟨p1, ep1⟩ : ∃ p, w1.heap.size = p := ⟨_, rfl⟩
  obtain ⟨p2, ep2⟩ : ∃ p, w1.heap.size + 1 = p := ⟨_, rfl⟩
  rw [ep1] at hl1 ⊢
  rw [show p1 + 1 = p2 from by omega]
  rw [ep2] at hl2
  have A1 := Lib.hid hl1
  have A2 := Lib.hid hl2
  clear hb2 hl1 hl2 ep1 ep2 g1 HB1
  go_wp2_with fail
  refine (dists_any w2).mono ?_
  rintro e w3 ⟨rfl, hb3, hl1, hl2⟩
  have g1 := HB2.out.size
  have HB3 := Lib.hid (HB2.out.trans (hb3.mono g1))
  have B1 := Lib.hid (A1.out.below' hb3)
  have B2 := Lib.hid (A2.out.below' hb3)
  obtain ⟨p3, ep1⟩ : ∃ p, w2.heap.size = p := ⟨_, rfl⟩
  obtain ⟨p4, ep2⟩ : ∃ p, w2.heap.size + 1 = p := ⟨_, rfl⟩
  rw [ep1] at hl1 ⊢
  rw [show p3 + 1 = p4 from by omega]
  rw [ep2] at hl2
  have B3 := Lib.hid hl1
  have B4 := Lib.hid hl2
  clear hb3 hl1 hl2 ep1 ep2 g1 HB2 A1 A2
  go_wp2_with fail
  refine (length_any n w3 (by omega)).mono ?_
  rw [e1]
  rintro e w4 ⟨rfl, hb4⟩
  have g1 := HB3.out.size
  have HB4 := Lib.hid (HB3.out.trans (hb4.mono g1))
  have A1 := Lib.hid (B1.out.below' hb4)
  have A2 := Lib.hid (B2.out.below' hb4)
  have A3 := Lib.hid (B3.out.below' hb4)
  have A4 := Lib.hid (B4.out.below' hb4)
  clear hb4 g1 HB3 B1 B2 B3 B4 e1
  go_wp2_with fail
  refine (dist_any n _ (by omega)).mono ?_
  rw [e2]
  rintro e w5 ⟨rfl, hb5⟩
  have g1 := HB4.out.size
  have HB5 := Lib.hid ((HB4.out.alloc g1 _).trans (hb5.mono (by simp; omega)))
  have B0 := Lib.hid ((Whole.new w4 27 _ rfl).below' hb5)
  have B1 := Lib.hid ((A1.out.alloc _).below' hb5)
  have B2 := Lib.hid ((A2.out.alloc _).below' hb5)
  have B3 := Lib.hid ((A3.out.alloc _).below' hb5)
  have B4 := Lib.hid ((A4.out.alloc _).below' hb5)
  clear hb5 g1 HB4 A1 A2 A3 A4 e2
  generalize w4.heap.size = p0 at *
  have cx1 := fun o1 o2 o3 => int_cell (((B1.out.alloc o1).alloc o2).alloc o3) (k := i1) (by exact f1)
  have cx2 := fun o1 o2 o3 => int_cell (((B2.out.alloc o1).alloc o2).alloc o3) (k := i1) (by exact f1)
  have cx3 := fun o1 o2 o3 => int_cell (((B3.out.alloc o1).alloc o2).alloc o3) (k := i2) (by exact f2)
  have cx4 := fun o1 o2 o3 => int_cell (((B4.out.alloc o1).alloc o2).alloc o3) (k := i2) (by exact f2)
  simp only [G3.out] at cx1
  simp only [G4.out] at cx2
  simp only [G5.out] at cx3
  simp only [G6.out] at cx4
  have y1 : (0 : Int) ≤ (i1 : Int) := by omega
  have y2 : (i1 : Int) < 29 := by omega
  have y3 : (0 : Int) ≤ (i2 : Int) := by omega
  have y4 : (i2 : Int) < 30 := by omega
  have z0 : ∀ o1 o2 o3, (((w5.alloc o1).alloc o2).alloc o3).cell? ⟨p0, 0, none⟩ = some (.int .i64 (0)) := fun o1 o2 o3 => (((B0.out.alloc o1).alloc o2).alloc o3).cell 0
  have z1 : ∀ o1 o2 o3, (((w5.alloc o1).alloc o2).alloc o3).cell? ⟨p0, 1, none⟩ = some (.int .i64 (0)) := fun o1 o2 o3 => (((B0.out.alloc o1).alloc o2).alloc o3).cell 1
  have z2 : ∀ o1 o2 o3, (((w5.alloc o1).alloc o2).alloc o3).cell? ⟨p0, 2, none⟩ = some (.int .i64 (0)) := fun o1 o2 o3 => (((B0.out.alloc o1).alloc o2).alloc o3).cell 2
  have l0 := B0.out.lt
  have l1 := B1.out.lt
  have l2 := B2.out.lt
  have l3 := B3.out.lt
  have l4 := B4.out.lt
  have F1 := fun w' h => find_any p1 29 29 lb n w' h rfl (by omega)
  have F2 := fun w' h => find_any p3 30 30 db n w' h rfl (by omega)
  have E1 := Lib.hid F1
  have E2 := Lib.hid F2
  clear F1 F2
  go_wp2_with fail
  refine (E1.out _ (by exact B1.out.alloc _)).mono ?_
  rw [G1.out]
  rintro e w6 ⟨rfl, rfl⟩
  go_wp2_with fail
  refine (E2.out _ (by exact B3.out.alloc _)).mono ?_
  rw [G2.out]
  rintro e w6 ⟨rfl, rfl⟩
  clear E1 E2
  go_wp2
  refine wp_region_tail 11 (by kernel_rfl) (by kernel_rfl) ?_
  simp only [List.take_succ_cons, List.take_zero, List.drop_succ_cons, List.drop_zero]
  repeat still_step
  refine wpStill_nil ?_
  go_wp2
  go_ret
  have g := HB5.out.size
  exact ⟨rfl, (((HB5.out.alloc g _).alloc (by simp; omega) _).alloc (by simp; omega) _).drewN' 1⟩
set_option maxHeartbeats 1000000 in
set_option maxRecDepth 100000 in
theorem parts_high (n : Int) (w : World) (h1 : 32769 ≤ n) (h2 : n ≤ 9223372036854775807) : Calls Try.prog 3 #[.int .i64 n] w fun e w' => e = .returned (.bool true) ∧ Below w.heap.size w w' := by
  have f1 := findN_lt lb n 29 (by omega)
  have f2 := findN_lt db n 30 (by omega)
  obtain ⟨i1, hi1⟩ : ∃ x, findN lb n 29 = x := ⟨_, rfl⟩
  obtain ⟨i2, hi2⟩ : ∃ x, findN db n 30 = x := ⟨_, rfl⟩
  obtain ⟨a1, ha1⟩ : ∃ x, lb.getD i1 0 = x := ⟨_, rfl⟩
  obtain ⟨a2, ha2⟩ : ∃ x, lx.getD i1 0 = x := ⟨_, rfl⟩
  obtain ⟨a3, ha3⟩ : ∃ x, db.getD i2 0 = x := ⟨_, rfl⟩
  obtain ⟨a4, ha4⟩ : ∃ x, dx.getD i2 0 = x := ⟨_, rfl⟩
  have bd1 : ∀ j, j < 29 → 0 ≤ lb.getD j 0 ∧ lb.getD j 0 ≤ 258 := by decide
  have bd2 : ∀ j, j < 30 → 0 ≤ db.getD j 0 ∧ db.getD j 0 ≤ 24577 := by decide
  have ba1 := bd1 i1 (by omega)
  have ba2 := bd2 i2 (by omega)
  clear bd1 bd2
  rw [ha1] at ba1
  rw [ha3] at ba2
  obtain ⟨q1, hq1⟩ : ∃ x, 257 + (i1 : Int) = x := ⟨_, rfl⟩
  obtain ⟨r1, hr1⟩ : ∃ x, n - a1 = x := ⟨_, rfl⟩
  obtain ⟨r2, hr2⟩ : ∃ x, n - a3 = x := ⟨_, rfl⟩
  have e1 : lengthV n = part 0 0 0 false := by unfold lengthV; rw [if_neg (by omega)]
  have e2 : distV n = part 0 0 0 false := by unfold distV; rw [if_neg (by omega)]
  have bq : q1 < 300 := by omega
  clear ba1 ba2
  have dd258 : decide (n ≤ 258) = false := by simp; omega
  have dd32768 : decide (n ≤ 32768) = false := by simp; omega
  have Q1 := eq_self 0 0 0
  have Q2 := eq_self 0 0 0
  have G1 := Lib.hid hi1
  have G2 := Lib.hid hi2
  have G3 := Lib.hid ha1
  have G4 := Lib.hid ha2
  have G5 := Lib.hid ha3
  have G6 := Lib.hid ha4
  rw [hi1] at f1
  rw [hi2] at f2
  clear hi1 hi2 ha1 ha2 ha3 ha4
  go_enter Try.func3, Try.ntmps3
  go_wp2_with fail
  refine (awake_any w).mono ?_
  rintro e w1 ⟨rfl, hb1⟩
  have HB1 := Lib.hid hb1
  clear hb1
  go_wp2_with fail
  refine (lengths_any w1).mono ?_
  rintro e w2 ⟨rfl, hb2, hl1, hl2⟩
  have g1 := HB1.out.size
  have HB2 := Lib.hid (HB1.out.trans (hb2.mono g1))
  obtain ⟨p1, ep1⟩ : ∃ p, w1.heap.size = p := ⟨_, rfl⟩
  obtain ⟨p2, ep2⟩ : ∃ p, w1.heap.size + 1 = p := ⟨_, rfl⟩
  rw [ep1] at hl1 ⊢
  rw [show p1 + 1 = p2 from by omega]
  rw [ep2] at hl2
  have A1 := Lib.hid hl1
  have A2 := Lib.hid hl2
  clear hb2 hl1 hl2 ep1 ep2 g1 HB1
  go_wp2_with fail
  refine (dists_any w2).mono ?_
  rintro e w3 ⟨rfl, hb3, hl1, hl2⟩
  have g1 := HB2.out.size
  have HB3 := Lib.hid (HB2.out.trans (hb3.mono g1))
  have B1 := Lib.hid (A1.out.below' hb3)
  have B2 := Lib.hid (A2.out.below' hb3)
  obtain ⟨p3, ep1⟩ : ∃ p, w2.heap.size = p := ⟨_, rfl⟩
  obtain ⟨p4, ep2⟩ : ∃ p, w2.heap.size + 1 = p := ⟨_, rfl⟩
  rw [ep1] at hl1 ⊢
  rw [show p3 + 1 = p4 from by omega]
  rw [ep2] at hl2
  have B3 := Lib.hid hl1
  have B4 := Lib.hid hl2
  clear hb3 hl1 hl2 ep1 ep2 g1 HB2 A1 A2
  go_wp2_with fail
  refine (length_any n w3 (by omega)).mono ?_
  rw [e1]
  rintro e w4 ⟨rfl, hb4⟩
  have g1 := HB3.out.size
  have HB4 := Lib.hid (HB3.out.trans (hb4.mono g1))
  have A1 := Lib.hid (B1.out.below' hb4)
  have A2 := Lib.hid (B2.out.below' hb4)
  have A3 := Lib.hid (B3.out.below' hb4)
  have A4 := Lib.hid (B4.out.below' hb4)
  clear hb4 g1 HB3 B1 B2 B3 B4 e1
  go_wp2_with fail
  refine (dist_any n _ (by omega)).mono ?_
  rw [e2]
  rintro e w5 ⟨rfl, hb5⟩
  have g1 := HB4.out.size
  have HB5 := Lib.hid ((HB4.out.alloc g1 _).trans (hb5.mono (by simp; omega)))
  have B0 := Lib.hid ((Whole.new w4 27 _ rfl).below' hb5)
  have B1 := Lib.hid ((A1.out.alloc _).below' hb5)
  have B2 := Lib.hid ((A2.out.alloc _).below' hb5)
  have B3 := Lib.hid ((A3.out.alloc _).below' hb5)
  have B4 := Lib.hid ((A4.out.alloc _).below' hb5)
  clear hb5 g1 HB4 A1 A2 A3 A4 e2
  generalize w4.heap.size = p0 at *
  have cx1 := fun o1 o2 o3 => int_cell (((B1.out.alloc o1).alloc o2).alloc o3) (k := i1) (by exact f1)
  have cx2 := fun o1 o2 o3 => int_cell (((B2.out.alloc o1).alloc o2).alloc o3) (k := i1) (by exact f1)
  have cx3 := fun o1 o2 o3 => int_cell (((B3.out.alloc o1).alloc o2).alloc o3) (k := i2) (by exact f2)
  have cx4 := fun o1 o2 o3 => int_cell (((B4.out.alloc o1).alloc o2).alloc o3) (k := i2) (by exact f2)
  simp only [G3.out] at cx1
  simp only [G4.out] at cx2
  simp only [G5.out] at cx3
  simp only [G6.out] at cx4
  have y1 : (0 : Int) ≤ (i1 : Int) := by omega
  have y2 : (i1 : Int) < 29 := by omega
  have y3 : (0 : Int) ≤ (i2 : Int) := by omega
  have y4 : (i2 : Int) < 30 := by omega
  have z0 : ∀ o1 o2 o3, (((w5.alloc o1).alloc o2).alloc o3).cell? ⟨p0, 0, none⟩ = some (.int .i64 (0)) := fun o1 o2 o3 => (((B0.out.alloc o1).alloc o2).alloc o3).cell 0
  have z1 : ∀ o1 o2 o3, (((w5.alloc o1).alloc o2).alloc o3).cell? ⟨p0, 1, none⟩ = some (.int .i64 (0)) := fun o1 o2 o3 => (((B0.out.alloc o1).alloc o2).alloc o3).cell 1
  have z2 : ∀ o1 o2 o3, (((w5.alloc o1).alloc o2).alloc o3).cell? ⟨p0, 2, none⟩ = some (.int .i64 (0)) := fun o1 o2 o3 => (((B0.out.alloc o1).alloc o2).alloc o3).cell 2
  have l0 := B0.out.lt
  have l1 := B1.out.lt
  have l2 := B2.out.lt
  have l3 := B3.out.lt
  have l4 := B4.out.lt
  have F1 := fun w' h => find_any p1 29 29 lb n w' h rfl (by omega)
  have F2 := fun w' h => find_any p3 30 30 db n w' h rfl (by omega)
  have E1 := Lib.hid F1
  have E2 := Lib.hid F2
  clear F1 F2
  go_wp2_with fail
  refine (E1.out _ (by exact B1.out.alloc _)).mono ?_
  rw [G1.out]
  rintro e w6 ⟨rfl, rfl⟩
  go_wp2_with fail
  refine (E2.out _ (by exact B3.out.alloc _)).mono ?_
  rw [G2.out]
  rintro e w6 ⟨rfl, rfl⟩
  clear E1 E2
  go_wp2
  go_ret
  have g := HB5.out.size
  exact ⟨rfl, (((HB5.out.alloc g _).alloc (by simp; omega) _).alloc (by simp; omega) _)⟩
theorem parts_any (n : Int) (w : World) (h1 : -9223372036854775808 ≤ n) (h2 : n ≤ 9223372036854775807) : Calls Try.prog 3 #[.int .i64 n] w fun e w' => e = .returned (.bool true) ∧ Below w.heap.size w w' := by
  rcases Int.lt_or_le n 1 with a | a
  · exact parts_low n w h1 (by omega)
  rcases Int.lt_or_le n 3 with b | b
  · exact parts_one n w (by omega) (by omega)
  rcases Int.lt_or_le n 259 with c | c
  · exact parts_mid n w (by omega) (by omega)
  rcases Int.lt_or_le n 32769 with d | d
  · exact parts_far n w (by omega) (by omega)
  · exact parts_high n w (by omega) h2
end Go.Proofs.Ytgncenladhempaa
