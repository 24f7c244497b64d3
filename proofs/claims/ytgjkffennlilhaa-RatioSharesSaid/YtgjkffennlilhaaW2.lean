/- Comparing floats. -/
import Derived.Test.YtgjkffennlilhaaW1
namespace Go.Proofs.Ytgjkffennlilhaa
open Go.RowKit

def icmp (a b : Int) : Int := if a < b then -1 else if b < a then 1 else 0
theorem inan_any (a : Int) (w : World) : Calls Try.prog 38 #[.int .i64 a] w fun e w' => e = .returned (.bool false) ∧ w = w' := by
  have c : (a != a) = false := by simp
  go_enter Try.func38, Try.ntmps38
  go_wp2
  go_ret
  exact ⟨by simp, rfl⟩
theorem icmp_any (a b : Int) (w : World) : Calls Try.prog 30 #[.int .i64 a, .int .i64 b] w fun e w' => e = .returned (.int .i64 (icmp a b)) ∧ w = w' := by
  have HA := Lib.hid (inan_any a w)
  have HB := Lib.hid (inan_any b w)
  by_cases h1 : a < b
  · rw [show icmp a b = -1 from by unfold icmp; rw [if_pos h1]]
    have c1 : decide (a < b) = true := by simpa using h1
    clear h1
    go_enter Try.func30, Try.ntmps30
    go_wp2_with fail
    refine HA.out.mono ?_
    rintro e wx ⟨rfl, rfl⟩
    go_wp2_with fail
    refine HB.out.mono ?_
    rintro e wx ⟨rfl, rfl⟩
    go_wp2
    go_ret
    exact ⟨rfl, rfl⟩
  by_cases h2 : b < a
  · rw [show icmp a b = 1 from by unfold icmp; rw [if_neg h1, if_pos h2]]
    have c1 : decide (a < b) = false := by simpa using h1
    have c2 : decide (b < a) = true := by simpa using h2
    clear h1 h2
    go_enter Try.func30, Try.ntmps30
    go_wp2_with fail
    refine HA.out.mono ?_
    rintro e wx ⟨rfl, rfl⟩
    go_wp2_with fail
    refine HB.out.mono ?_
    rintro e wx ⟨rfl, rfl⟩
    go_wp2
    go_ret
    exact ⟨rfl, rfl⟩
  rw [show icmp a b = 0 from by unfold icmp; rw [if_neg h1, if_neg h2]]
  have c1 : decide (a < b) = false := by simpa using h1
  have c2 : decide (b < a) = false := by simpa using h2
  clear h1 h2
  go_enter Try.func30, Try.ntmps30
  go_wp2_with fail
  refine HA.out.mono ?_
  rintro e wx ⟨rfl, rfl⟩
  go_wp2_with fail
  refine HB.out.mono ?_
  rintro e wx ⟨rfl, rfl⟩
  go_wp2
  go_ret
  exact ⟨rfl, rfl⟩
set_option maxHeartbeats 1000000 in
theorem compare_any (x y : Nat) (w : World) (hx : x < 18446744073709551616) (hy : y < 18446744073709551616) : Calls Try.prog 15 #[.float .f64 x, .float .f64 y] w fun e w' => e = .returned (.int .i64 (fcmp x y)) ∧ w = w' := by
  have HX := Lib.hid (class_any x w hx)
  have HY := Lib.hid (class_any y w hy)
  have L1 := order_lt x y
  have L2 := order_gt x y
  have has := flt_asymm x y
  unfold fcmp
  obtain ⟨p, hp⟩ : ∃ p, cls x = p := ⟨_, rfl⟩
  obtain ⟨q, hq⟩ : ∃ q, cls y = q := ⟨_, rfl⟩
  rw [hp] at HX ⊢
  rw [hq] at HY ⊢
  have HI := Lib.hid (icmp_any p q w)
  clear hp hq hx hy
  by_cases h1 : p < q
  · rw [if_pos (Or.inl h1)]
    have c1 : decide (p < q) = true := by simp; omega
    have c2 : decide (q < p) = false := by simp; omega
    rw [show icmp p q = -1 from by unfold icmp; (repeat' split) <;> omega] at HI
    clear h1
    go_enter Try.func15, Try.ntmps15
    go_wp2_with fail
    refine HX.out.mono ?_
    rintro e wx ⟨rfl, rfl⟩
    go_wp2_with fail
    refine HY.out.mono ?_
    rintro e wx ⟨rfl, rfl⟩
    go_wp2_with fail
    refine HI.out.mono ?_
    rintro e wx ⟨rfl, rfl⟩
    go_wp2
    go_ret
    exact ⟨rfl, rfl⟩
  by_cases h2 : q < p
  · rw [if_neg (by rintro (h | h); omega; omega), if_pos (Or.inl h2)]
    have c1 : decide (p < q) = false := by simp; omega
    have c2 : decide (q < p) = true := by simp; omega
    rw [show icmp p q = 1 from by unfold icmp; (repeat' split) <;> omega] at HI
    clear h1 h2
    go_enter Try.func15, Try.ntmps15
    go_wp2_with fail
    refine HX.out.mono ?_
    rintro e wx ⟨rfl, rfl⟩
    go_wp2_with fail
    refine HY.out.mono ?_
    rintro e wx ⟨rfl, rfl⟩
    go_wp2_with fail
    refine HI.out.mono ?_
    rintro e wx ⟨rfl, rfl⟩
    go_wp2
    go_ret
    exact ⟨rfl, rfl⟩
  have h3 : p = q := by omega
  cases h4 : flt x y
  rotate_left
  · rw [if_pos (Or.inr ⟨h3, rfl⟩)]
    have c1 : decide (p < q) = false := by simp; omega
    have c2 : decide (q < p) = false := by simp; omega
    rw [show icmp p q = 0 from by unfold icmp; (repeat' split) <;> omega] at HI
    rw [h4] at L1
    clear h1 h2 h3 h4
    go_enter Try.func15, Try.ntmps15
    go_wp2_with fail
    refine HX.out.mono ?_
    rintro e wx ⟨rfl, rfl⟩
    go_wp2_with fail
    refine HY.out.mono ?_
    rintro e wx ⟨rfl, rfl⟩
    go_wp2_with fail
    refine HI.out.mono ?_
    rintro e wx ⟨rfl, rfl⟩
    go_wp2
    go_ret
    exact ⟨rfl, rfl⟩
  cases h5 : flt y x
  rotate_left
  · rw [if_neg (by rintro (h | h); omega; cases h.2), if_pos (Or.inr ⟨h3, rfl⟩)]
    have c1 : decide (p < q) = false := by simp; omega
    have c2 : decide (q < p) = false := by simp; omega
    rw [show icmp p q = 0 from by unfold icmp; (repeat' split) <;> omega] at HI
    rw [h4] at L1
    rw [h5] at L2
    clear h1 h2 h3 h4 h5
    go_enter Try.func15, Try.ntmps15
    go_wp2_with fail
    refine HX.out.mono ?_
    rintro e wx ⟨rfl, rfl⟩
    go_wp2_with fail
    refine HY.out.mono ?_
    rintro e wx ⟨rfl, rfl⟩
    go_wp2_with fail
    refine HI.out.mono ?_
    rintro e wx ⟨rfl, rfl⟩
    go_wp2
    go_ret
    exact ⟨rfl, rfl⟩
  rw [if_neg (by rintro (h | h); omega; cases h.2), if_neg (by rintro (h | h); omega; cases h.2)]
  have c1 : decide (p < q) = false := by simp; omega
  have c2 : decide (q < p) = false := by simp; omega
  rw [show icmp p q = 0 from by unfold icmp; (repeat' split) <;> omega] at HI
  rw [h4] at L1
  rw [h5] at L2
  clear h1 h2 h3 h4 h5
  go_enter Try.func15, Try.ntmps15
  go_wp2_with fail
  refine HX.out.mono ?_
  rintro e wx ⟨rfl, rfl⟩
  go_wp2_with fail
  refine HY.out.mono ?_
  rintro e wx ⟨rfl, rfl⟩
  go_wp2_with fail
  refine HI.out.mono ?_
  rintro e wx ⟨rfl, rfl⟩
  go_wp2
  go_ret
  exact ⟨rfl, rfl⟩
set_option maxHeartbeats 1000000 in
theorem compare_page (x y : Nat) (w : World) (hx : x < 18446744073709551616) (hy : y < 18446744073709551616) : Calls Try.prog 17 #[.float .f64 x, .float .f64 y] w fun e w' => e = .returned (.int .i64 (fcmp x y)) ∧ w = w' := by
  have HX := Lib.hid (class_page x w hx)
  have HY := Lib.hid (class_page y w hy)
  have L1 := order_lt x y
  have L2 := order_gt x y
  have has := flt_asymm x y
  unfold fcmp
  obtain ⟨p, hp⟩ : ∃ p, cls x = p := ⟨_, rfl⟩
  obtain ⟨q, hq⟩ : ∃ q, cls y = q := ⟨_, rfl⟩
  rw [hp] at HX ⊢
  rw [hq] at HY ⊢
  have HI := Lib.hid (icmp_any p q w)
  clear hp hq hx hy
  by_cases h1 : p < q
  · rw [if_pos (Or.inl h1)]
    have c1 : decide (p < q) = true := by simp; omega
    have c2 : decide (q < p) = false := by simp; omega
    have c3 : (p == q) = false := by rw [beq_eq_false_iff_ne]; omega
    clear h1
    go_enter Try.func17, Try.ntmps17
    go_wp2_with fail
    refine HX.out.mono ?_
    rintro e wx ⟨rfl, rfl⟩
    go_wp2_with fail
    refine HY.out.mono ?_
    rintro e wx ⟨rfl, rfl⟩
    go_wp2
    go_ret
    exact ⟨rfl, rfl⟩
  by_cases h2 : q < p
  · rw [if_neg (by rintro (h | h); omega; omega), if_pos (Or.inl h2)]
    have c1 : decide (p < q) = false := by simp; omega
    have c2 : decide (q < p) = true := by simp; omega
    have c3 : (p == q) = false := by rw [beq_eq_false_iff_ne]; omega
    clear h1 h2
    go_enter Try.func17, Try.ntmps17
    go_wp2_with fail
    refine HX.out.mono ?_
    rintro e wx ⟨rfl, rfl⟩
    go_wp2_with fail
    refine HY.out.mono ?_
    rintro e wx ⟨rfl, rfl⟩
    go_wp2
    go_ret
    exact ⟨rfl, rfl⟩
  have h3 : p = q := by omega
  cases h4 : flt x y
  rotate_left
  · rw [if_pos (Or.inr ⟨h3, rfl⟩)]
    have c1 : decide (p < q) = false := by simp; omega
    have c2 : decide (q < p) = false := by simp; omega
    have c3 : (p == q) = true := by simp; omega
    rw [h4] at L1
    clear h1 h2 h3 h4
    go_enter Try.func17, Try.ntmps17
    go_wp2_with fail
    refine HX.out.mono ?_
    rintro e wx ⟨rfl, rfl⟩
    go_wp2_with fail
    refine HY.out.mono ?_
    rintro e wx ⟨rfl, rfl⟩
    go_wp2
    go_ret
    exact ⟨rfl, rfl⟩
  cases h5 : flt y x
  rotate_left
  · rw [if_neg (by rintro (h | h); omega; cases h.2), if_pos (Or.inr ⟨h3, rfl⟩)]
    have c1 : decide (p < q) = false := by simp; omega
    have c2 : decide (q < p) = false := by simp; omega
    have c3 : (p == q) = true := by simp; omega
    rw [h4] at L1
    rw [h5] at L2
    clear h1 h2 h3 h4 h5
    go_enter Try.func17, Try.ntmps17
    go_wp2_with fail
    refine HX.out.mono ?_
    rintro e wx ⟨rfl, rfl⟩
    go_wp2_with fail
    refine HY.out.mono ?_
    rintro e wx ⟨rfl, rfl⟩
    go_wp2
    go_ret
    exact ⟨rfl, rfl⟩
  rw [if_neg (by rintro (h | h); omega; cases h.2), if_neg (by rintro (h | h); omega; cases h.2)]
  have c1 : decide (p < q) = false := by simp; omega
  have c2 : decide (q < p) = false := by simp; omega
  have c3 : (p == q) = true := by simp; omega
  rw [h4] at L1
  rw [h5] at L2
  clear h1 h2 h3 h4 h5
  go_enter Try.func17, Try.ntmps17
  go_wp2_with fail
  refine HX.out.mono ?_
  rintro e wx ⟨rfl, rfl⟩
  go_wp2_with fail
  refine HY.out.mono ?_
  rintro e wx ⟨rfl, rfl⟩
  go_wp2
  go_ret
  exact ⟨rfl, rfl⟩
def sgn (k : Int) : Int := if 1 ≤ k ∧ k ≤ 3 then -1 else if k = 0 ∨ k = 4 then 0 else 1
theorem cls_vals (x : Nat) : cls x = 0 ∨ cls x = 1 ∨ cls x = 2 ∨ cls x = 3 ∨ cls x = 4 ∨ cls x = 5 ∨ cls x = 6 := by
  unfold cls
  repeat' split
  all_goals simp
theorem sign_any (x : Nat) (w : World) (hx : x < 18446744073709551616) : Calls Try.prog 16 #[.float .f64 x] w fun e w' => e = .returned (.int .i64 (sgn (cls x))) ∧ w = w' := by
  have HX := Lib.hid (class_any x w hx)
  rcases cls_vals x with h | h | h | h | h | h | h
  all_goals
    rw [h] at HX ⊢
    clear hx h
    go_enter Try.func16, Try.ntmps16
    go_wp2_with fail
    refine HX.out.mono ?_
    rintro e wx ⟨rfl, rfl⟩
    go_wp2
    go_ret
    exact ⟨rfl, rfl⟩
def fclamp (x : Nat) : Nat := if flt 4607182418800017408 x = true then 4607182418800017408 else if flt 0 x = true then x else 0
theorem clamp_any (x : Nat) (w : World) : Calls Try.prog 18 #[.float .f64 x] w fun e w' => e = .returned (.float .f64 (fclamp x)) ∧ w = w' := by
  have L1 := order_gt x 4607182418800017408
  have L2 := order_gt x 0
  unfold fclamp
  cases h1 : flt 4607182418800017408 x
  rotate_left
  · rw [if_pos rfl]
    rw [h1] at L1
    clear h1
    go_enter Try.func18, Try.ntmps18
    go_wp2
    go_ret
    exact ⟨rfl, rfl⟩
  rw [if_neg Bool.false_ne_true]
  rw [h1] at L1
  cases h2 : flt 0 x
  rotate_left
  · rw [if_pos rfl]
    rw [h2] at L2
    clear h1 h2
    go_enter Try.func18, Try.ntmps18
    go_wp2
    go_ret
    exact ⟨rfl, rfl⟩
  rw [if_neg Bool.false_ne_true]
  rw [h2] at L2
  clear h1 h2
  go_enter Try.func18, Try.ntmps18
  go_wp2
  go_ret
  exact ⟨rfl, rfl⟩
theorem clamp_page (x : Nat) (w : World) : Calls Try.prog 12 #[.float .f64 x] w fun e w' => e = .returned (.float .f64 (fclamp x)) ∧ w = w' := by
  have L1 := order_gt x 4607182418800017408
  have L2 := order_gt x 0
  unfold fclamp
  cases h1 : flt 4607182418800017408 x
  rotate_left
  · rw [if_pos rfl]
    rw [h1] at L1
    clear h1
    go_enter Try.func12, Try.ntmps12
    go_wp2
    go_ret
    exact ⟨rfl, rfl⟩
  rw [if_neg Bool.false_ne_true]
  rw [h1] at L1
  cases h2 : flt 0 x
  rotate_left
  · rw [if_pos rfl]
    rw [h2] at L2
    clear h1 h2
    go_enter Try.func12, Try.ntmps12
    go_wp2
    go_ret
    exact ⟨rfl, rfl⟩
  rw [if_neg Bool.false_ne_true]
  rw [h2] at L2
  clear h1 h2
  go_enter Try.func12, Try.ntmps12
  go_wp2
  go_ret
  exact ⟨rfl, rfl⟩
theorem clamp_bd (x : Nat) (hx : x < 18446744073709551616) : fclamp x < 18446744073709551616 := by
  unfold fclamp
  repeat' split
  all_goals omega
theorem same_self (x : Nat) (w : World) (hx : x < 18446744073709551616) : Calls Try.prog 9 #[.float .f64 x, .float .f64 x] w fun e w' => e = .returned (.bool true) ∧ w = w' := by
  have HX := Lib.hid (class_page x w hx)
  have HC := compare_page x x w hx hx
  rw [fcmp_self] at HC
  have HC := Lib.hid HC
  obtain ⟨p, hp⟩ : ∃ p, cls x = p := ⟨_, rfl⟩
  rw [hp] at HX
  have c : (p == p) = true := by simp
  clear hp hx
  go_enter Try.func9, Try.ntmps9
  go_wp2_with fail
  refine HX.out.mono ?_
  rintro e wx ⟨rfl, rfl⟩
  go_wp2_with fail
  refine HX.out.mono ?_
  rintro e wx ⟨rfl, rfl⟩
  go_wp2_with fail
  refine HC.out.mono ?_
  rintro e wx ⟨rfl, rfl⟩
  go_wp2
  go_ret
  exact ⟨by simp, rfl⟩
end Go.Proofs.Ytgjkffennlilhaa
