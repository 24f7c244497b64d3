/- AlphaBack, for every number. -/
import Derived.Test.YtgncenladhempaaDoorW4
namespace Go.Proofs.YtgncenladhempaaDoor
open Go.RowKit

theorem findN_spec (l : List Int) (n : Int) (h0 : l.getD 0 0 ≤ n) : ∀ m, 0 < m → l.getD (findN l n m) 0 ≤ n ∧ ∀ j, findN l n m < j → j < m → n < l.getD j 0
  | 0, h => absurd h (by omega)
  | m + 1, _ => by
    unfold findN
    split
    · rename_i h
      exact ⟨h, fun j h1 h2 => by omega⟩
    · rename_i h
      rcases Nat.eq_zero_or_pos m with hm | hm
      · subst hm
        exact absurd h0 h
      · obtain ⟨a, b⟩ := findN_spec l n h0 m hm
        refine ⟨a, fun j h1 h2 => ?_⟩
        rcases Nat.lt_or_ge j m with hj | hj
        · exact b j h1 hj
        · obtain rfl : j = m := by omega
          omega
theorem dist_fit (d : Int) (h1 : 1 ≤ d) (h2 : d ≤ 32768) : 0 ≤ d - db.getD (findN db d 30) 0 ∧ d - db.getD (findN db d 30) 0 < 2 ^ (dx.getD (findN db d 30) 0).toNat ∧ 0 ≤ dx.getD (findN db d 30) 0 ∧ dx.getD (findN db d 30) 0 ≤ 13 := by
  obtain ⟨a, b⟩ := findN_spec db d h1 30 (by omega)
  have hk := findN_lt db d 30 (by omega)
  generalize findN db d 30 = k at *
  have key : ∀ k, k < 30 → 0 ≤ dx.getD k 0 ∧ dx.getD k 0 ≤ 13 ∧ (k < 29 → db.getD (k + 1) 0 = db.getD k 0 + 2 ^ (dx.getD k 0).toNat) ∧ (k = 29 → (32768 : Int) < db.getD k 0 + 2 ^ (dx.getD k 0).toNat) := by decide
  obtain ⟨k1, k2, k3, k4⟩ := key k hk
  refine ⟨by omega, ?_, k1, k2⟩
  rcases Nat.lt_or_ge k 29 with h | h
  · have e := k3 h
    have := b (k + 1) (by omega) (by omega)
    omega
  · have := k4 (by omega)
    omega
theorem length_fit (d : Int) (h1 : 3 ≤ d) (h2 : d ≤ 258) : 0 ≤ d - lb.getD (findN lb d 29) 0 ∧ d - lb.getD (findN lb d 29) 0 < 2 ^ (lx.getD (findN lb d 29) 0).toNat ∧ 0 ≤ lx.getD (findN lb d 29) 0 ∧ lx.getD (findN lb d 29) 0 ≤ 13 := by
  obtain ⟨a, b⟩ := findN_spec lb d h1 29 (by omega)
  have hk := findN_lt lb d 29 (by omega)
  generalize findN lb d 29 = k at *
  have key : ∀ k, k < 29 → 0 ≤ lx.getD k 0 ∧ lx.getD k 0 ≤ 13 ∧ (k < 28 → lb.getD (k + 1) 0 ≤ lb.getD k 0 + 2 ^ (lx.getD k 0).toNat) ∧ (k = 28 → (258 : Int) < lb.getD k 0 + 2 ^ (lx.getD k 0).toNat) := by decide
  obtain ⟨k1, k2, k3, k4⟩ := key k hk
  refine ⟨by omega, ?_, k1, k2⟩
  rcases Nat.lt_or_ge k 28 with h | h
  · have e := k3 h
    have := b (k + 1) (by omega) (by omega)
    omega
  · have := k4 (by omega)
    omega
set_option maxHeartbeats 2000000 in
set_option maxRecDepth 100000 in
theorem back_in (n : Int) (w : World) (h1 : 3 ≤ n) (h2 : n ≤ 258) (T0 : TabAt w 0 lb) (T1 : TabAt w 1 lx) (T2 : TabAt w 2 db) : Calls Tryd.prog 5 #[.int .u16 n] w fun e w' => e = .returned (.bool true) ∧ Below w.heap.size w w' := by
  obtain ⟨d, hd⟩ : ∃ d, 1 + n % 32768 = d := ⟨_, rfl⟩
  have HD := Lib.hid hd
  have d1 : 1 ≤ d := by omega
  have d2 : d ≤ 32768 := by omega
  clear hd
  obtain ⟨g1, g2, g3, g4⟩ := dist_fit d d1 d2
  have f2 := findN_lt db d 30 (by omega)
  have e2 : distV d = part (findN db d 30) (dx.getD (findN db d 30) 0) (d - db.getD (findN db d 30) 0) true := by unfold distV; rw [if_pos ⟨d1, d2⟩]
  obtain ⟨i2, hi2⟩ : ∃ x, findN db d 30 = x := ⟨_, rfl⟩
  rw [hi2] at g1 g2 g3 g4 f2 e2
  clear hi2
  obtain ⟨a3, ha3⟩ : ∃ x, db.getD i2 0 = x := ⟨_, rfl⟩
  obtain ⟨a4, ha4⟩ : ∃ x, dx.getD i2 0 = x := ⟨_, rfl⟩
  obtain ⟨r2, hr2⟩ : ∃ x, d - a3 = x := ⟨_, rfl⟩
  rw [ha3, ha4] at e2
  rw [ha3, ha4] at g2
  rw [ha3] at g1
  rw [ha4] at g3 g4
  rw [hr2] at g1 g2 e2
  have s2 : a3 + r2 = d := by omega
  have S2 := Lib.hid s2
  have E2 := Lib.hid e2
  have A3 := Lib.hid ha3
  have A4 := Lib.hid ha4
  have b3 : a3 ≤ 32768 := by omega
  have b3' : -32768 ≤ a3 := by
    have : ∀ k, k < 30 → -32768 ≤ db.getD k 0 := by decide
    have := this i2 f2
    omega
  have r2u : r2 ≤ 65536 := by omega
  clear s2 e2 ha3 ha4 hr2
  have pw : ∀ k : Nat, k ≤ 13 → (0 : Int) < 2 ^ k ∧ (2 : Int) ^ k ≤ 8192 := by decide
  have pd := pw a4.toNat (by omega)
  obtain ⟨pp, hpd⟩ : ∃ x : Int, (2 : Int) ^ a4.toNat = x := ⟨_, rfl⟩
  rw [hpd] at g2 pd
  obtain ⟨l1, l2, l3, l4⟩ := length_fit n h1 h2
  have f1 := findN_lt lb n 29 (by omega)
  have e1 : lengthV n = part (257 + findN lb n 29) (lx.getD (findN lb n 29) 0) (n - lb.getD (findN lb n 29) 0) true := by unfold lengthV; rw [if_pos ⟨h1, h2⟩]
  obtain ⟨i1, hi1⟩ : ∃ x, findN lb n 29 = x := ⟨_, rfl⟩
  rw [hi1] at l1 l2 l3 l4 f1 e1
  clear hi1
  obtain ⟨a1, ha1⟩ : ∃ x, lb.getD i1 0 = x := ⟨_, rfl⟩
  obtain ⟨a2, ha2⟩ : ∃ x, lx.getD i1 0 = x := ⟨_, rfl⟩
  obtain ⟨r1, hr1⟩ : ∃ x, n - a1 = x := ⟨_, rfl⟩
  obtain ⟨q1, hq1⟩ : ∃ x, 257 + (i1 : Int) = x := ⟨_, rfl⟩
  rw [ha1, ha2, hq1] at e1
  rw [ha1, ha2] at l2
  rw [ha1] at l1
  rw [ha2] at l3 l4
  rw [hr1] at l1 l2 e1
  have s1 : a1 + r1 = n := by omega
  have S1 := Lib.hid s1
  have E1 := Lib.hid e1
  have A1 := Lib.hid ha1
  have A2 := Lib.hid ha2
  have b1 : a1 ≤ 258 := by omega
  have b1' : -32768 ≤ a1 := by
    have : ∀ k, k < 29 → -32768 ≤ lb.getD k 0 := by decide
    have := this i1 f1
    omega
  have r1u : r1 ≤ 65536 := by omega
  have Q1 := Lib.hid (show q1 - 257 = (i1 : Int) by omega)
  clear s1 e1 ha1 ha2 hr1 hq1
  have pl := pw a2.toNat (by omega)
  obtain ⟨ll, hpl⟩ : ∃ x : Int, (2 : Int) ^ a2.toNat = x := ⟨_, rfl⟩
  rw [hpl] at l2 pl
  clear pw
  have H0 := Lib.hid T0
  have H1 := Lib.hid T1
  have H2 := Lib.hid T2
  clear T0 T1 T2
  go_enter Tryd.func5, Tryd.ntmps5
  go_wp2_with fail
  refine (awake_any w).mono ?_
  rintro e w1 ⟨rfl, hb1⟩
  have HB1 := Lib.hid hb1
  have K0 := Lib.hid (H0.out.below hb1)
  have K1 := Lib.hid (H1.out.below hb1)
  have K2 := Lib.hid (H2.out.below hb1)
  clear hb1 H0 H1 H2
  go_wp2_with fail
  refine (length_any n w1 (by omega)).mono ?_
  rw [E1.out]
  rintro e w2 ⟨rfl, hb2⟩
  have HB2 := Lib.hid (HB1.out.trans (hb2.mono HB1.out.size))
  have H0 := Lib.hid (K0.out.below hb2)
  have H1 := Lib.hid (K1.out.below hb2)
  have H2 := Lib.hid (K2.out.below hb2)
  clear hb2 HB1 K0 K1 K2
  go_wp2_with fail
  have X := Lib.hid (Whole.new w2 34 #[.int .i64 q1, .int .i64 a2, .int .i64 r1] rfl)
  have al : ∀ {g l}, TabAt w2 g l → ∀ o, TabAt (w2.alloc o) g l := fun h o => h.below ((Below.refl _ _).alloc (Nat.le_refl _) o)
  refine (lengthBase_in q1 i1 f1 Q1.out _ (al H0.out _) (al H1.out _)).mono ?_
  rw [A1.out, A2.out]
  rintro e w3 ⟨rfl, hb3⟩
  have X3 := Lib.hid (X.out.below' hb3)
  have HB3 := Lib.hid ((HB2.out.alloc HB2.out.size _).trans (hb3.mono (by have := HB2.out.size; simp; omega)))
  have K2 := Lib.hid ((al H2.out _).below hb3)
  clear hb3 HB2 H0 H1 H2 X al
  have c0 := X3.out.cell 0
  have c1 := X3.out.cell 1
  have c2 := X3.out.cell 2
  have D1 : (a1 + r1 == n) = true := by simp [S1.out]
  have D1' : (a1 + r1 != n) = false := by simp [S1.out]
  go_wp2_with fail
  rw [HD.out]
  refine (dist_any d _ (by omega)).mono ?_
  rw [E2.out]
  rintro e w4 ⟨rfl, hb4⟩
  have X4 := Lib.hid (Whole.new w4 34 #[.int .i64 (i2 : Int), .int .i64 a4, .int .i64 r2] rfl)
  have HB4 := Lib.hid ((HB3.out.trans (hb4.mono HB3.out.size)).alloc (HB3.out.trans (hb4.mono HB3.out.size)).size (.cells #[.int .i64 (i2 : Int), .int .i64 a4, .int .i64 r2] 34))
  have K4 := Lib.hid ((K2.out.below hb4).below ((Below.refl _ _).alloc (Nat.le_refl _) (.cells #[.int .i64 (i2 : Int), .int .i64 a4, .int .i64 r2] 34)))
  clear hb4 HB3 K2
  go_wp2_with fail
  refine (distBase_in (i2 : Int) i2 f2 rfl _ K4.out).mono ?_
  rw [A3.out, A4.out]
  rintro e w5 ⟨rfl, hb5⟩
  have X5 := Lib.hid (X4.out.below' hb5)
  have HB5 := Lib.hid (HB4.out.trans (hb5.mono HB4.out.size))
  clear hb5 HB4 X4 K4
  have c0 := X5.out.cell 0
  have c1 := X5.out.cell 1
  have c2 := X5.out.cell 2
  have D2 : (a3 + r2 == d) = true := by simp [S2.out]
  go_wp2
  go_ret
  exact ⟨rfl, HB5.out⟩
set_option maxHeartbeats 2000000 in
set_option maxRecDepth 100000 in
theorem back_low (n : Int) (w : World) (h1 : 0 ≤ n) (h2 : n ≤ 65535) (h3 : n < 3) (T0 : TabAt w 0 lb) (T1 : TabAt w 1 lx) (T2 : TabAt w 2 db) : Calls Tryd.prog 5 #[.int .u16 n] w fun e w' => e = .returned (.bool true) ∧ Below w.heap.size w w' := by
  obtain ⟨d, hd⟩ : ∃ d, 1 + n % 32768 = d := ⟨_, rfl⟩
  have HD := Lib.hid hd
  have d1 : 1 ≤ d := by omega
  have d2 : d ≤ 32768 := by omega
  clear hd
  obtain ⟨g1, g2, g3, g4⟩ := dist_fit d d1 d2
  have f2 := findN_lt db d 30 (by omega)
  have e2 : distV d = part (findN db d 30) (dx.getD (findN db d 30) 0) (d - db.getD (findN db d 30) 0) true := by unfold distV; rw [if_pos ⟨d1, d2⟩]
  obtain ⟨i2, hi2⟩ : ∃ x, findN db d 30 = x := ⟨_, rfl⟩
  rw [hi2] at g1 g2 g3 g4 f2 e2
  clear hi2
  obtain ⟨a3, ha3⟩ : ∃ x, db.getD i2 0 = x := ⟨_, rfl⟩
  obtain ⟨a4, ha4⟩ : ∃ x, dx.getD i2 0 = x := ⟨_, rfl⟩
  obtain ⟨r2, hr2⟩ : ∃ x, d - a3 = x := ⟨_, rfl⟩
  rw [ha3, ha4] at e2
  rw [ha3, ha4] at g2
  rw [ha3] at g1
  rw [ha4] at g3 g4
  rw [hr2] at g1 g2 e2
  have s2 : a3 + r2 = d := by omega
  have S2 := Lib.hid s2
  have E2 := Lib.hid e2
  have A3 := Lib.hid ha3
  have A4 := Lib.hid ha4
  have b3 : a3 ≤ 32768 := by omega
  have b3' : -32768 ≤ a3 := by
    have : ∀ k, k < 30 → -32768 ≤ db.getD k 0 := by decide
    have := this i2 f2
    omega
  have r2u : r2 ≤ 65536 := by omega
  clear s2 e2 ha3 ha4 hr2
  have pw : ∀ k : Nat, k ≤ 13 → (0 : Int) < 2 ^ k ∧ (2 : Int) ^ k ≤ 8192 := by decide
  have pd := pw a4.toNat (by omega)
  obtain ⟨pp, hpd⟩ : ∃ x : Int, (2 : Int) ^ a4.toNat = x := ⟨_, rfl⟩
  rw [hpd] at g2 pd
  have E1 : Hid (lengthV n = part 0 0 0 false) := Lib.hid (by unfold lengthV; rw [if_neg (by omega)])
  clear pw
  have H0 := Lib.hid T0
  have H1 := Lib.hid T1
  have H2 := Lib.hid T2
  clear T0 T1 T2
  go_enter Tryd.func5, Tryd.ntmps5
  go_wp2_with fail
  refine (awake_any w).mono ?_
  rintro e w1 ⟨rfl, hb1⟩
  have HB1 := Lib.hid hb1
  have K0 := Lib.hid (H0.out.below hb1)
  have K1 := Lib.hid (H1.out.below hb1)
  have K2 := Lib.hid (H2.out.below hb1)
  clear hb1 H0 H1 H2
  go_wp2_with fail
  refine (length_any n w1 (by omega)).mono ?_
  rw [E1.out]
  rintro e w2 ⟨rfl, hb2⟩
  have HB2 := Lib.hid (HB1.out.trans (hb2.mono HB1.out.size))
  have H0 := Lib.hid (K0.out.below hb2)
  have H1 := Lib.hid (K1.out.below hb2)
  have H2 := Lib.hid (K2.out.below hb2)
  clear hb2 HB1 K0 K1 K2
  have HB3 := Lib.hid (HB2.out.alloc HB2.out.size (.cells #[.int .i64 0, .int .i64 0, .int .i64 0] 34))
  have K3 := Lib.hid (H2.out.below ((Below.refl _ _).alloc (Nat.le_refl _) (.cells #[.int .i64 0, .int .i64 0, .int .i64 0] 34)))
  have K2 := K3
  go_wp2_with fail
  rw [HD.out]
  refine (dist_any d _ (by omega)).mono ?_
  rw [E2.out]
  rintro e w4 ⟨rfl, hb4⟩
  have X4 := Lib.hid (Whole.new w4 34 #[.int .i64 (i2 : Int), .int .i64 a4, .int .i64 r2] rfl)
  have HB4 := Lib.hid ((HB3.out.trans (hb4.mono HB3.out.size)).alloc (HB3.out.trans (hb4.mono HB3.out.size)).size (.cells #[.int .i64 (i2 : Int), .int .i64 a4, .int .i64 r2] 34))
  have K4 := Lib.hid ((K2.out.below hb4).below ((Below.refl _ _).alloc (Nat.le_refl _) (.cells #[.int .i64 (i2 : Int), .int .i64 a4, .int .i64 r2] 34)))
  clear hb4 HB3 K2
  go_wp2_with fail
  refine (distBase_in (i2 : Int) i2 f2 rfl _ K4.out).mono ?_
  rw [A3.out, A4.out]
  rintro e w5 ⟨rfl, hb5⟩
  have X5 := Lib.hid (X4.out.below' hb5)
  have HB5 := Lib.hid (HB4.out.trans (hb5.mono HB4.out.size))
  clear hb5 HB4 X4 K4
  have c0 := X5.out.cell 0
  have c1 := X5.out.cell 1
  have c2 := X5.out.cell 2
  have D2 : (a3 + r2 == d) = true := by simp [S2.out]
  go_wp2
  go_ret
  exact ⟨rfl, HB5.out⟩
set_option maxHeartbeats 2000000 in
set_option maxRecDepth 100000 in
theorem back_high (n : Int) (w : World) (h1 : 0 ≤ n) (h2 : n ≤ 65535) (h3 : 258 < n) (T0 : TabAt w 0 lb) (T1 : TabAt w 1 lx) (T2 : TabAt w 2 db) : Calls Tryd.prog 5 #[.int .u16 n] w fun e w' => e = .returned (.bool true) ∧ Below w.heap.size w w' := by
  obtain ⟨d, hd⟩ : ∃ d, 1 + n % 32768 = d := ⟨_, rfl⟩
  have HD := Lib.hid hd
  have d1 : 1 ≤ d := by omega
  have d2 : d ≤ 32768 := by omega
  clear hd
  obtain ⟨g1, g2, g3, g4⟩ := dist_fit d d1 d2
  have f2 := findN_lt db d 30 (by omega)
  have e2 : distV d = part (findN db d 30) (dx.getD (findN db d 30) 0) (d - db.getD (findN db d 30) 0) true := by unfold distV; rw [if_pos ⟨d1, d2⟩]
  obtain ⟨i2, hi2⟩ : ∃ x, findN db d 30 = x := ⟨_, rfl⟩
  rw [hi2] at g1 g2 g3 g4 f2 e2
  clear hi2
  obtain ⟨a3, ha3⟩ : ∃ x, db.getD i2 0 = x := ⟨_, rfl⟩
  obtain ⟨a4, ha4⟩ : ∃ x, dx.getD i2 0 = x := ⟨_, rfl⟩
  obtain ⟨r2, hr2⟩ : ∃ x, d - a3 = x := ⟨_, rfl⟩
  rw [ha3, ha4] at e2
  rw [ha3, ha4] at g2
  rw [ha3] at g1
  rw [ha4] at g3 g4
  rw [hr2] at g1 g2 e2
  have s2 : a3 + r2 = d := by omega
  have S2 := Lib.hid s2
  have E2 := Lib.hid e2
  have A3 := Lib.hid ha3
  have A4 := Lib.hid ha4
  have b3 : a3 ≤ 32768 := by omega
  have b3' : -32768 ≤ a3 := by
    have : ∀ k, k < 30 → -32768 ≤ db.getD k 0 := by decide
    have := this i2 f2
    omega
  have r2u : r2 ≤ 65536 := by omega
  clear s2 e2 ha3 ha4 hr2
  have pw : ∀ k : Nat, k ≤ 13 → (0 : Int) < 2 ^ k ∧ (2 : Int) ^ k ≤ 8192 := by decide
  have pd := pw a4.toNat (by omega)
  obtain ⟨pp, hpd⟩ : ∃ x : Int, (2 : Int) ^ a4.toNat = x := ⟨_, rfl⟩
  rw [hpd] at g2 pd
  have E1 : Hid (lengthV n = part 0 0 0 false) := Lib.hid (by unfold lengthV; rw [if_neg (by omega)])
  clear pw
  have H0 := Lib.hid T0
  have H1 := Lib.hid T1
  have H2 := Lib.hid T2
  clear T0 T1 T2
  go_enter Tryd.func5, Tryd.ntmps5
  go_wp2_with fail
  refine (awake_any w).mono ?_
  rintro e w1 ⟨rfl, hb1⟩
  have HB1 := Lib.hid hb1
  have K0 := Lib.hid (H0.out.below hb1)
  have K1 := Lib.hid (H1.out.below hb1)
  have K2 := Lib.hid (H2.out.below hb1)
  clear hb1 H0 H1 H2
  go_wp2_with fail
  refine (length_any n w1 (by omega)).mono ?_
  rw [E1.out]
  rintro e w2 ⟨rfl, hb2⟩
  have HB2 := Lib.hid (HB1.out.trans (hb2.mono HB1.out.size))
  have H0 := Lib.hid (K0.out.below hb2)
  have H1 := Lib.hid (K1.out.below hb2)
  have H2 := Lib.hid (K2.out.below hb2)
  clear hb2 HB1 K0 K1 K2
  have HB3 := Lib.hid (HB2.out.alloc HB2.out.size (.cells #[.int .i64 0, .int .i64 0, .int .i64 0] 34))
  have K3 := Lib.hid (H2.out.below ((Below.refl _ _).alloc (Nat.le_refl _) (.cells #[.int .i64 0, .int .i64 0, .int .i64 0] 34)))
  have K2 := K3
  go_wp2_with fail
  rw [HD.out]
  refine (dist_any d _ (by omega)).mono ?_
  rw [E2.out]
  rintro e w4 ⟨rfl, hb4⟩
  have X4 := Lib.hid (Whole.new w4 34 #[.int .i64 (i2 : Int), .int .i64 a4, .int .i64 r2] rfl)
  have HB4 := Lib.hid ((HB3.out.trans (hb4.mono HB3.out.size)).alloc (HB3.out.trans (hb4.mono HB3.out.size)).size (.cells #[.int .i64 (i2 : Int), .int .i64 a4, .int .i64 r2] 34))
  have K4 := Lib.hid ((K2.out.below hb4).below ((Below.refl _ _).alloc (Nat.le_refl _) (.cells #[.int .i64 (i2 : Int), .int .i64 a4, .int .i64 r2] 34)))
  clear hb4 HB3 K2
  go_wp2_with fail
  refine (distBase_in (i2 : Int) i2 f2 rfl _ K4.out).mono ?_
  rw [A3.out, A4.out]
  rintro e w5 ⟨rfl, hb5⟩
  have X5 := Lib.hid (X4.out.below' hb5)
  have HB5 := Lib.hid (HB4.out.trans (hb5.mono HB4.out.size))
  clear hb5 HB4 X4 K4
  have c0 := X5.out.cell 0
  have c1 := X5.out.cell 1
  have c2 := X5.out.cell 2
  have D2 : (a3 + r2 == d) = true := by simp [S2.out]
  go_wp2
  go_ret
  exact ⟨rfl, HB5.out⟩
theorem back_any (n : Int) (w : World) (h1 : 0 ≤ n) (h2 : n ≤ 65535) (T0 : TabAt w 0 lb) (T1 : TabAt w 1 lx) (T2 : TabAt w 2 db) : Calls Tryd.prog 5 #[.int .u16 n] w fun e w' => e = .returned (.bool true) ∧ Below w.heap.size w w' := by
  by_cases a : n < 3
  · exact back_low n w h1 h2 a T0 T1 T2
  by_cases b : 258 < n
  · exact back_high n w h1 h2 b T0 T1 T2
  · exact back_in n w (by omega) (by omega) T0 T1 T2
end Go.Proofs.YtgncenladhempaaDoor
