/- RatioOrder. -/
import Derived.Test.YtgjkffennlilhaaW3
namespace Go.Proofs.Ytgjkffennlilhaa
open Go.RowKit

set_option maxHeartbeats 1000000 in
theorem law_a1 (a b c : Nat) (p X Y Z : Int) (W : World) (hb : -1 ≤ X ∧ X ≤ 1) (hp : 1 ≤ p ∧ p ≤ 3) (hX : 0 < X)
    (C1 : Hid (∀ w, Calls Try.prog 14 #[.float .f64 a] w fun e w' => e = .returned (.int .i64 p) ∧ w = w'))
    (C2 : Hid (∀ w, Calls Try.prog 13 #[.float .f64 a] w fun e w' => e = .returned (.int .i64 p) ∧ w = w'))
    (C3 : Hid (∀ w, Calls Try.prog 16 #[.float .f64 a] w fun e w' => e = .returned (.int .i64 (-1)) ∧ w = w'))
    (AB : Hid (∀ w, Calls Try.prog 15 #[.float .f64 a, .float .f64 b] w fun e w' => e = .returned (.int .i64 X) ∧ w = w'))
    (BC : Hid (∀ w, Calls Try.prog 15 #[.float .f64 b, .float .f64 c] w fun e w' => e = .returned (.int .i64 Y) ∧ w = w'))
    (AC : Hid (∀ w, Calls Try.prog 15 #[.float .f64 a, .float .f64 c] w fun e w' => e = .returned (.int .i64 Z) ∧ w = w'))
    (BA : Hid (∀ w, Calls Try.prog 15 #[.float .f64 b, .float .f64 a] w fun e w' => e = .returned (.int .i64 (-X)) ∧ w = w'))
    (PAB : Hid (∀ w, Calls Try.prog 17 #[.float .f64 a, .float .f64 b] w fun e w' => e = .returned (.int .i64 X) ∧ w = w'))
    (K1 : Hid (∀ w, Calls Try.prog 18 #[.float .f64 a] w fun e w' => e = .returned (.float .f64 (fclamp a)) ∧ w = w'))
    (K2 : Hid (∀ w, Calls Try.prog 12 #[.float .f64 a] w fun e w' => e = .returned (.float .f64 (fclamp a)) ∧ w = w'))
    (SM : Hid (∀ w, Calls Try.prog 9 #[.float .f64 (fclamp a), .float .f64 (fclamp a)] w fun e w' => e = .returned (.bool true) ∧ w = w')) :
    Calls Try.prog 4 #[.float .f64 a, .float .f64 b, .float .f64 c] W fun e w' => e = .returned (.bool true) ∧ Below W.heap.size W w' := by
  have f0 : decide (1 ≤ p) = true := by simp; omega
  have f1 : decide (p ≤ 3) = true := by simp; omega
  have f2 : (p == 0) = false := by rw [beq_eq_false_iff_ne]; omega
  have f3 : (p == 4) = false := by rw [beq_eq_false_iff_ne]; omega
  have f4 : decide (0 < X) = true := by simp; omega
  have f5 : (X != 0) = true := by simp; omega
  have e1 : (p == p) = true := by simp
  have e2 : (X == X) = true := by simp
  have e3 : ((-X) == (-X)) = true := by simp
  have e4 : IntKind.i64.wrap (-X) = -X := IntWalk.i64_in _ (by omega)
  clear hp hX hb
  go_enter Try.func4, Try.ntmps4
  go_wp2_with fail
  refine (awake_any W).mono ?_
  rintro e w1 ⟨rfl, hb1⟩
  have HB := Lib.hid hb1
  clear hb1
  go_wp2_with fail
  refine (C1.out _).mono ?_
  rintro e wx ⟨rfl, rfl⟩
  go_wp2_with fail
  refine (AB.out _).mono ?_
  rintro e wx ⟨rfl, rfl⟩
  go_wp2_with fail
  refine (BC.out _).mono ?_
  rintro e wx ⟨rfl, rfl⟩
  go_wp2_with fail
  refine (AC.out _).mono ?_
  rintro e wx ⟨rfl, rfl⟩
  go_wp2_with fail
  refine (C2.out _).mono ?_
  rintro e wx ⟨rfl, rfl⟩
  go_wp2_with fail
  refine (C3.out _).mono ?_
  rintro e wx ⟨rfl, rfl⟩
  go_wp2_with fail
  refine (PAB.out _).mono ?_
  rintro e wx ⟨rfl, rfl⟩
  go_wp2_with fail
  refine (BA.out _).mono ?_
  rintro e wx ⟨rfl, rfl⟩
  go_wp2_with fail
  refine (K1.out _).mono ?_
  rintro e wx ⟨rfl, rfl⟩
  go_wp2_with fail
  refine (K2.out _).mono ?_
  rintro e wx ⟨rfl, rfl⟩
  go_wp2_with fail
  refine (SM.out _).mono ?_
  rintro e wx ⟨rfl, rfl⟩
  go_wp2
  go_ret
  exact ⟨rfl, HB.out⟩
set_option maxHeartbeats 1000000 in
theorem law_a2 (a b c : Nat) (p X Y Z : Int) (W : World) (hb : -1 ≤ X ∧ X ≤ 1) (hp : 1 ≤ p ∧ p ≤ 3) (hX : X < 0 ∧ 0 < Y)
    (C1 : Hid (∀ w, Calls Try.prog 14 #[.float .f64 a] w fun e w' => e = .returned (.int .i64 p) ∧ w = w'))
    (C2 : Hid (∀ w, Calls Try.prog 13 #[.float .f64 a] w fun e w' => e = .returned (.int .i64 p) ∧ w = w'))
    (C3 : Hid (∀ w, Calls Try.prog 16 #[.float .f64 a] w fun e w' => e = .returned (.int .i64 (-1)) ∧ w = w'))
    (AB : Hid (∀ w, Calls Try.prog 15 #[.float .f64 a, .float .f64 b] w fun e w' => e = .returned (.int .i64 X) ∧ w = w'))
    (BC : Hid (∀ w, Calls Try.prog 15 #[.float .f64 b, .float .f64 c] w fun e w' => e = .returned (.int .i64 Y) ∧ w = w'))
    (AC : Hid (∀ w, Calls Try.prog 15 #[.float .f64 a, .float .f64 c] w fun e w' => e = .returned (.int .i64 Z) ∧ w = w'))
    (BA : Hid (∀ w, Calls Try.prog 15 #[.float .f64 b, .float .f64 a] w fun e w' => e = .returned (.int .i64 (-X)) ∧ w = w'))
    (PAB : Hid (∀ w, Calls Try.prog 17 #[.float .f64 a, .float .f64 b] w fun e w' => e = .returned (.int .i64 X) ∧ w = w'))
    (K1 : Hid (∀ w, Calls Try.prog 18 #[.float .f64 a] w fun e w' => e = .returned (.float .f64 (fclamp a)) ∧ w = w'))
    (K2 : Hid (∀ w, Calls Try.prog 12 #[.float .f64 a] w fun e w' => e = .returned (.float .f64 (fclamp a)) ∧ w = w'))
    (SM : Hid (∀ w, Calls Try.prog 9 #[.float .f64 (fclamp a), .float .f64 (fclamp a)] w fun e w' => e = .returned (.bool true) ∧ w = w')) :
    Calls Try.prog 4 #[.float .f64 a, .float .f64 b, .float .f64 c] W fun e w' => e = .returned (.bool true) ∧ Below W.heap.size W w' := by
  have f0 : decide (1 ≤ p) = true := by simp; omega
  have f1 : decide (p ≤ 3) = true := by simp; omega
  have f2 : (p == 0) = false := by rw [beq_eq_false_iff_ne]; omega
  have f3 : (p == 4) = false := by rw [beq_eq_false_iff_ne]; omega
  have f4 : decide (0 < X) = false := by simp; omega
  have f5 : decide (0 < Y) = true := by simp; omega
  have f6 : (X != 0) = true := by simp; omega
  have e1 : (p == p) = true := by simp
  have e2 : (X == X) = true := by simp
  have e3 : ((-X) == (-X)) = true := by simp
  have e4 : IntKind.i64.wrap (-X) = -X := IntWalk.i64_in _ (by omega)
  clear hp hX hb
  go_enter Try.func4, Try.ntmps4
  go_wp2_with fail
  refine (awake_any W).mono ?_
  rintro e w1 ⟨rfl, hb1⟩
  have HB := Lib.hid hb1
  clear hb1
  go_wp2_with fail
  refine (C1.out _).mono ?_
  rintro e wx ⟨rfl, rfl⟩
  go_wp2_with fail
  refine (AB.out _).mono ?_
  rintro e wx ⟨rfl, rfl⟩
  go_wp2_with fail
  refine (BC.out _).mono ?_
  rintro e wx ⟨rfl, rfl⟩
  go_wp2_with fail
  refine (AC.out _).mono ?_
  rintro e wx ⟨rfl, rfl⟩
  go_wp2_with fail
  refine (C2.out _).mono ?_
  rintro e wx ⟨rfl, rfl⟩
  go_wp2_with fail
  refine (C3.out _).mono ?_
  rintro e wx ⟨rfl, rfl⟩
  go_wp2_with fail
  refine (PAB.out _).mono ?_
  rintro e wx ⟨rfl, rfl⟩
  go_wp2_with fail
  refine (BA.out _).mono ?_
  rintro e wx ⟨rfl, rfl⟩
  go_wp2_with fail
  refine (K1.out _).mono ?_
  rintro e wx ⟨rfl, rfl⟩
  go_wp2_with fail
  refine (K2.out _).mono ?_
  rintro e wx ⟨rfl, rfl⟩
  go_wp2_with fail
  refine (SM.out _).mono ?_
  rintro e wx ⟨rfl, rfl⟩
  go_wp2
  go_ret
  exact ⟨rfl, HB.out⟩
set_option maxHeartbeats 1000000 in
theorem law_a3 (a b c : Nat) (p X Y Z : Int) (W : World) (hb : -1 ≤ X ∧ X ≤ 1) (hp : 1 ≤ p ∧ p ≤ 3) (hX : X = 0 ∧ 0 < Y)
    (C1 : Hid (∀ w, Calls Try.prog 14 #[.float .f64 a] w fun e w' => e = .returned (.int .i64 p) ∧ w = w'))
    (C2 : Hid (∀ w, Calls Try.prog 13 #[.float .f64 a] w fun e w' => e = .returned (.int .i64 p) ∧ w = w'))
    (C3 : Hid (∀ w, Calls Try.prog 16 #[.float .f64 a] w fun e w' => e = .returned (.int .i64 (-1)) ∧ w = w'))
    (AB : Hid (∀ w, Calls Try.prog 15 #[.float .f64 a, .float .f64 b] w fun e w' => e = .returned (.int .i64 X) ∧ w = w'))
    (BC : Hid (∀ w, Calls Try.prog 15 #[.float .f64 b, .float .f64 c] w fun e w' => e = .returned (.int .i64 Y) ∧ w = w'))
    (AC : Hid (∀ w, Calls Try.prog 15 #[.float .f64 a, .float .f64 c] w fun e w' => e = .returned (.int .i64 Z) ∧ w = w'))
    (BA : Hid (∀ w, Calls Try.prog 15 #[.float .f64 b, .float .f64 a] w fun e w' => e = .returned (.int .i64 (-X)) ∧ w = w'))
    (PAB : Hid (∀ w, Calls Try.prog 17 #[.float .f64 a, .float .f64 b] w fun e w' => e = .returned (.int .i64 X) ∧ w = w'))
    (K1 : Hid (∀ w, Calls Try.prog 18 #[.float .f64 a] w fun e w' => e = .returned (.float .f64 (fclamp a)) ∧ w = w'))
    (K2 : Hid (∀ w, Calls Try.prog 12 #[.float .f64 a] w fun e w' => e = .returned (.float .f64 (fclamp a)) ∧ w = w'))
    (SM : Hid (∀ w, Calls Try.prog 9 #[.float .f64 (fclamp a), .float .f64 (fclamp a)] w fun e w' => e = .returned (.bool true) ∧ w = w')) :
    Calls Try.prog 4 #[.float .f64 a, .float .f64 b, .float .f64 c] W fun e w' => e = .returned (.bool true) ∧ Below W.heap.size W w' := by
  have f0 : decide (1 ≤ p) = true := by simp; omega
  have f1 : decide (p ≤ 3) = true := by simp; omega
  have f2 : (p == 0) = false := by rw [beq_eq_false_iff_ne]; omega
  have f3 : (p == 4) = false := by rw [beq_eq_false_iff_ne]; omega
  have f4 : decide (0 < X) = false := by simp; omega
  have f5 : decide (0 < Y) = true := by simp; omega
  have f6 : (X != 0) = false := by simp; omega
  have f7 : (Y != 0) = true := by simp; omega
  have e1 : (p == p) = true := by simp
  have e2 : (X == X) = true := by simp
  have e3 : ((-X) == (-X)) = true := by simp
  have e4 : IntKind.i64.wrap (-X) = -X := IntWalk.i64_in _ (by omega)
  clear hp hX hb
  go_enter Try.func4, Try.ntmps4
  go_wp2_with fail
  refine (awake_any W).mono ?_
  rintro e w1 ⟨rfl, hb1⟩
  have HB := Lib.hid hb1
  clear hb1
  go_wp2_with fail
  refine (C1.out _).mono ?_
  rintro e wx ⟨rfl, rfl⟩
  go_wp2_with fail
  refine (AB.out _).mono ?_
  rintro e wx ⟨rfl, rfl⟩
  go_wp2_with fail
  refine (BC.out _).mono ?_
  rintro e wx ⟨rfl, rfl⟩
  go_wp2_with fail
  refine (AC.out _).mono ?_
  rintro e wx ⟨rfl, rfl⟩
  go_wp2_with fail
  refine (C2.out _).mono ?_
  rintro e wx ⟨rfl, rfl⟩
  go_wp2_with fail
  refine (C3.out _).mono ?_
  rintro e wx ⟨rfl, rfl⟩
  go_wp2_with fail
  refine (PAB.out _).mono ?_
  rintro e wx ⟨rfl, rfl⟩
  go_wp2_with fail
  refine (BA.out _).mono ?_
  rintro e wx ⟨rfl, rfl⟩
  go_wp2_with fail
  refine (K1.out _).mono ?_
  rintro e wx ⟨rfl, rfl⟩
  go_wp2_with fail
  refine (K2.out _).mono ?_
  rintro e wx ⟨rfl, rfl⟩
  go_wp2_with fail
  refine (SM.out _).mono ?_
  rintro e wx ⟨rfl, rfl⟩
  go_wp2
  go_ret
  exact ⟨rfl, HB.out⟩
set_option maxHeartbeats 1000000 in
theorem law_a4 (a b c : Nat) (p X Y Z : Int) (W : World) (hb : -1 ≤ X ∧ X ≤ 1) (hp : 1 ≤ p ∧ p ≤ 3) (hX : X < 0 ∧ Y ≤ 0 ∧ Z ≤ 0)
    (C1 : Hid (∀ w, Calls Try.prog 14 #[.float .f64 a] w fun e w' => e = .returned (.int .i64 p) ∧ w = w'))
    (C2 : Hid (∀ w, Calls Try.prog 13 #[.float .f64 a] w fun e w' => e = .returned (.int .i64 p) ∧ w = w'))
    (C3 : Hid (∀ w, Calls Try.prog 16 #[.float .f64 a] w fun e w' => e = .returned (.int .i64 (-1)) ∧ w = w'))
    (AB : Hid (∀ w, Calls Try.prog 15 #[.float .f64 a, .float .f64 b] w fun e w' => e = .returned (.int .i64 X) ∧ w = w'))
    (BC : Hid (∀ w, Calls Try.prog 15 #[.float .f64 b, .float .f64 c] w fun e w' => e = .returned (.int .i64 Y) ∧ w = w'))
    (AC : Hid (∀ w, Calls Try.prog 15 #[.float .f64 a, .float .f64 c] w fun e w' => e = .returned (.int .i64 Z) ∧ w = w'))
    (BA : Hid (∀ w, Calls Try.prog 15 #[.float .f64 b, .float .f64 a] w fun e w' => e = .returned (.int .i64 (-X)) ∧ w = w'))
    (PAB : Hid (∀ w, Calls Try.prog 17 #[.float .f64 a, .float .f64 b] w fun e w' => e = .returned (.int .i64 X) ∧ w = w'))
    (K1 : Hid (∀ w, Calls Try.prog 18 #[.float .f64 a] w fun e w' => e = .returned (.float .f64 (fclamp a)) ∧ w = w'))
    (K2 : Hid (∀ w, Calls Try.prog 12 #[.float .f64 a] w fun e w' => e = .returned (.float .f64 (fclamp a)) ∧ w = w'))
    (SM : Hid (∀ w, Calls Try.prog 9 #[.float .f64 (fclamp a), .float .f64 (fclamp a)] w fun e w' => e = .returned (.bool true) ∧ w = w')) :
    Calls Try.prog 4 #[.float .f64 a, .float .f64 b, .float .f64 c] W fun e w' => e = .returned (.bool true) ∧ Below W.heap.size W w' := by
  have f0 : decide (1 ≤ p) = true := by simp; omega
  have f1 : decide (p ≤ 3) = true := by simp; omega
  have f2 : (p == 0) = false := by rw [beq_eq_false_iff_ne]; omega
  have f3 : (p == 4) = false := by rw [beq_eq_false_iff_ne]; omega
  have f4 : decide (0 < X) = false := by simp; omega
  have f5 : decide (0 < Y) = false := by simp; omega
  have f6 : decide (Z ≤ 0) = true := by simp; omega
  have f7 : (X != 0) = true := by simp; omega
  have e1 : (p == p) = true := by simp
  have e2 : (X == X) = true := by simp
  have e3 : ((-X) == (-X)) = true := by simp
  have e4 : IntKind.i64.wrap (-X) = -X := IntWalk.i64_in _ (by omega)
  clear hp hX hb
  go_enter Try.func4, Try.ntmps4
  go_wp2_with fail
  refine (awake_any W).mono ?_
  rintro e w1 ⟨rfl, hb1⟩
  have HB := Lib.hid hb1
  clear hb1
  go_wp2_with fail
  refine (C1.out _).mono ?_
  rintro e wx ⟨rfl, rfl⟩
  go_wp2_with fail
  refine (AB.out _).mono ?_
  rintro e wx ⟨rfl, rfl⟩
  go_wp2_with fail
  refine (BC.out _).mono ?_
  rintro e wx ⟨rfl, rfl⟩
  go_wp2_with fail
  refine (AC.out _).mono ?_
  rintro e wx ⟨rfl, rfl⟩
  go_wp2_with fail
  refine (C2.out _).mono ?_
  rintro e wx ⟨rfl, rfl⟩
  go_wp2_with fail
  refine (C3.out _).mono ?_
  rintro e wx ⟨rfl, rfl⟩
  go_wp2_with fail
  refine (PAB.out _).mono ?_
  rintro e wx ⟨rfl, rfl⟩
  go_wp2_with fail
  refine (BA.out _).mono ?_
  rintro e wx ⟨rfl, rfl⟩
  go_wp2_with fail
  refine (K1.out _).mono ?_
  rintro e wx ⟨rfl, rfl⟩
  go_wp2_with fail
  refine (K2.out _).mono ?_
  rintro e wx ⟨rfl, rfl⟩
  go_wp2_with fail
  refine (SM.out _).mono ?_
  rintro e wx ⟨rfl, rfl⟩
  go_wp2
  go_ret
  exact ⟨rfl, HB.out⟩
set_option maxHeartbeats 1000000 in
theorem law_a5 (a b c : Nat) (p X Y Z : Int) (W : World) (hb : -1 ≤ X ∧ X ≤ 1) (hp : 1 ≤ p ∧ p ≤ 3) (hX : X = 0 ∧ Y < 0 ∧ Z ≤ 0)
    (C1 : Hid (∀ w, Calls Try.prog 14 #[.float .f64 a] w fun e w' => e = .returned (.int .i64 p) ∧ w = w'))
    (C2 : Hid (∀ w, Calls Try.prog 13 #[.float .f64 a] w fun e w' => e = .returned (.int .i64 p) ∧ w = w'))
    (C3 : Hid (∀ w, Calls Try.prog 16 #[.float .f64 a] w fun e w' => e = .returned (.int .i64 (-1)) ∧ w = w'))
    (AB : Hid (∀ w, Calls Try.prog 15 #[.float .f64 a, .float .f64 b] w fun e w' => e = .returned (.int .i64 X) ∧ w = w'))
    (BC : Hid (∀ w, Calls Try.prog 15 #[.float .f64 b, .float .f64 c] w fun e w' => e = .returned (.int .i64 Y) ∧ w = w'))
    (AC : Hid (∀ w, Calls Try.prog 15 #[.float .f64 a, .float .f64 c] w fun e w' => e = .returned (.int .i64 Z) ∧ w = w'))
    (BA : Hid (∀ w, Calls Try.prog 15 #[.float .f64 b, .float .f64 a] w fun e w' => e = .returned (.int .i64 (-X)) ∧ w = w'))
    (PAB : Hid (∀ w, Calls Try.prog 17 #[.float .f64 a, .float .f64 b] w fun e w' => e = .returned (.int .i64 X) ∧ w = w'))
    (K1 : Hid (∀ w, Calls Try.prog 18 #[.float .f64 a] w fun e w' => e = .returned (.float .f64 (fclamp a)) ∧ w = w'))
    (K2 : Hid (∀ w, Calls Try.prog 12 #[.float .f64 a] w fun e w' => e = .returned (.float .f64 (fclamp a)) ∧ w = w'))
    (SM : Hid (∀ w, Calls Try.prog 9 #[.float .f64 (fclamp a), .float .f64 (fclamp a)] w fun e w' => e = .returned (.bool true) ∧ w = w')) :
    Calls Try.prog 4 #[.float .f64 a, .float .f64 b, .float .f64 c] W fun e w' => e = .returned (.bool true) ∧ Below W.heap.size W w' := by
  have f0 : decide (1 ≤ p) = true := by simp; omega
  have f1 : decide (p ≤ 3) = true := by simp; omega
  have f2 : (p == 0) = false := by rw [beq_eq_false_iff_ne]; omega
  have f3 : (p == 4) = false := by rw [beq_eq_false_iff_ne]; omega
  have f4 : decide (0 < X) = false := by simp; omega
  have f5 : decide (0 < Y) = false := by simp; omega
  have f6 : decide (Z ≤ 0) = true := by simp; omega
  have f7 : (X != 0) = false := by simp; omega
  have f8 : (Y != 0) = true := by simp; omega
  have e1 : (p == p) = true := by simp
  have e2 : (X == X) = true := by simp
  have e3 : ((-X) == (-X)) = true := by simp
  have e4 : IntKind.i64.wrap (-X) = -X := IntWalk.i64_in _ (by omega)
  clear hp hX hb
  go_enter Try.func4, Try.ntmps4
  go_wp2_with fail
  refine (awake_any W).mono ?_
  rintro e w1 ⟨rfl, hb1⟩
  have HB := Lib.hid hb1
  clear hb1
  go_wp2_with fail
  refine (C1.out _).mono ?_
  rintro e wx ⟨rfl, rfl⟩
  go_wp2_with fail
  refine (AB.out _).mono ?_
  rintro e wx ⟨rfl, rfl⟩
  go_wp2_with fail
  refine (BC.out _).mono ?_
  rintro e wx ⟨rfl, rfl⟩
  go_wp2_with fail
  refine (AC.out _).mono ?_
  rintro e wx ⟨rfl, rfl⟩
  go_wp2_with fail
  refine (C2.out _).mono ?_
  rintro e wx ⟨rfl, rfl⟩
  go_wp2_with fail
  refine (C3.out _).mono ?_
  rintro e wx ⟨rfl, rfl⟩
  go_wp2_with fail
  refine (PAB.out _).mono ?_
  rintro e wx ⟨rfl, rfl⟩
  go_wp2_with fail
  refine (BA.out _).mono ?_
  rintro e wx ⟨rfl, rfl⟩
  go_wp2_with fail
  refine (K1.out _).mono ?_
  rintro e wx ⟨rfl, rfl⟩
  go_wp2_with fail
  refine (K2.out _).mono ?_
  rintro e wx ⟨rfl, rfl⟩
  go_wp2_with fail
  refine (SM.out _).mono ?_
  rintro e wx ⟨rfl, rfl⟩
  go_wp2
  go_ret
  exact ⟨rfl, HB.out⟩
set_option maxHeartbeats 1000000 in
theorem law_a6 (a b c : Nat) (p X Y Z : Int) (W : World) (hb : -1 ≤ X ∧ X ≤ 1) (hp : 1 ≤ p ∧ p ≤ 3) (hX : X = 0 ∧ Y = 0 ∧ Z = 0)
    (C1 : Hid (∀ w, Calls Try.prog 14 #[.float .f64 a] w fun e w' => e = .returned (.int .i64 p) ∧ w = w'))
    (C2 : Hid (∀ w, Calls Try.prog 13 #[.float .f64 a] w fun e w' => e = .returned (.int .i64 p) ∧ w = w'))
    (C3 : Hid (∀ w, Calls Try.prog 16 #[.float .f64 a] w fun e w' => e = .returned (.int .i64 (-1)) ∧ w = w'))
    (AB : Hid (∀ w, Calls Try.prog 15 #[.float .f64 a, .float .f64 b] w fun e w' => e = .returned (.int .i64 X) ∧ w = w'))
    (BC : Hid (∀ w, Calls Try.prog 15 #[.float .f64 b, .float .f64 c] w fun e w' => e = .returned (.int .i64 Y) ∧ w = w'))
    (AC : Hid (∀ w, Calls Try.prog 15 #[.float .f64 a, .float .f64 c] w fun e w' => e = .returned (.int .i64 Z) ∧ w = w'))
    (BA : Hid (∀ w, Calls Try.prog 15 #[.float .f64 b, .float .f64 a] w fun e w' => e = .returned (.int .i64 (-X)) ∧ w = w'))
    (PAB : Hid (∀ w, Calls Try.prog 17 #[.float .f64 a, .float .f64 b] w fun e w' => e = .returned (.int .i64 X) ∧ w = w'))
    (K1 : Hid (∀ w, Calls Try.prog 18 #[.float .f64 a] w fun e w' => e = .returned (.float .f64 (fclamp a)) ∧ w = w'))
    (K2 : Hid (∀ w, Calls Try.prog 12 #[.float .f64 a] w fun e w' => e = .returned (.float .f64 (fclamp a)) ∧ w = w'))
    (SM : Hid (∀ w, Calls Try.prog 9 #[.float .f64 (fclamp a), .float .f64 (fclamp a)] w fun e w' => e = .returned (.bool true) ∧ w = w')) :
    Calls Try.prog 4 #[.float .f64 a, .float .f64 b, .float .f64 c] W fun e w' => e = .returned (.bool true) ∧ Below W.heap.size W w' := by
  have f0 : decide (1 ≤ p) = true := by simp; omega
  have f1 : decide (p ≤ 3) = true := by simp; omega
  have f2 : (p == 0) = false := by rw [beq_eq_false_iff_ne]; omega
  have f3 : (p == 4) = false := by rw [beq_eq_false_iff_ne]; omega
  have f4 : decide (0 < X) = false := by simp; omega
  have f5 : decide (0 < Y) = false := by simp; omega
  have f6 : decide (Z ≤ 0) = true := by simp; omega
  have f7 : (X != 0) = false := by simp; omega
  have f8 : (Y != 0) = false := by simp; omega
  have f9 : (Z == 0) = true := by simp; omega
  have e1 : (p == p) = true := by simp
  have e2 : (X == X) = true := by simp
  have e3 : ((-X) == (-X)) = true := by simp
  have e4 : IntKind.i64.wrap (-X) = -X := IntWalk.i64_in _ (by omega)
  clear hp hX hb
  go_enter Try.func4, Try.ntmps4
  go_wp2_with fail
  refine (awake_any W).mono ?_
  rintro e w1 ⟨rfl, hb1⟩
  have HB := Lib.hid hb1
  clear hb1
  go_wp2_with fail
  refine (C1.out _).mono ?_
  rintro e wx ⟨rfl, rfl⟩
  go_wp2_with fail
  refine (AB.out _).mono ?_
  rintro e wx ⟨rfl, rfl⟩
  go_wp2_with fail
  refine (BC.out _).mono ?_
  rintro e wx ⟨rfl, rfl⟩
  go_wp2_with fail
  refine (AC.out _).mono ?_
  rintro e wx ⟨rfl, rfl⟩
  go_wp2_with fail
  refine (C2.out _).mono ?_
  rintro e wx ⟨rfl, rfl⟩
  go_wp2_with fail
  refine (C3.out _).mono ?_
  rintro e wx ⟨rfl, rfl⟩
  go_wp2_with fail
  refine (PAB.out _).mono ?_
  rintro e wx ⟨rfl, rfl⟩
  go_wp2_with fail
  refine (BA.out _).mono ?_
  rintro e wx ⟨rfl, rfl⟩
  go_wp2_with fail
  refine (K1.out _).mono ?_
  rintro e wx ⟨rfl, rfl⟩
  go_wp2_with fail
  refine (K2.out _).mono ?_
  rintro e wx ⟨rfl, rfl⟩
  go_wp2_with fail
  refine (SM.out _).mono ?_
  rintro e wx ⟨rfl, rfl⟩
  go_wp2
  go_ret
  exact ⟨rfl, HB.out⟩
set_option maxHeartbeats 1000000 in
theorem law_b1 (a b c : Nat) (p X Y Z : Int) (W : World) (hb : -1 ≤ X ∧ X ≤ 1) (hp : p = 0) (hX : 0 < X)
    (C1 : Hid (∀ w, Calls Try.prog 14 #[.float .f64 a] w fun e w' => e = .returned (.int .i64 p) ∧ w = w'))
    (C2 : Hid (∀ w, Calls Try.prog 13 #[.float .f64 a] w fun e w' => e = .returned (.int .i64 p) ∧ w = w'))
    (C3 : Hid (∀ w, Calls Try.prog 16 #[.float .f64 a] w fun e w' => e = .returned (.int .i64 (0)) ∧ w = w'))
    (AB : Hid (∀ w, Calls Try.prog 15 #[.float .f64 a, .float .f64 b] w fun e w' => e = .returned (.int .i64 X) ∧ w = w'))
    (BC : Hid (∀ w, Calls Try.prog 15 #[.float .f64 b, .float .f64 c] w fun e w' => e = .returned (.int .i64 Y) ∧ w = w'))
    (AC : Hid (∀ w, Calls Try.prog 15 #[.float .f64 a, .float .f64 c] w fun e w' => e = .returned (.int .i64 Z) ∧ w = w'))
    (BA : Hid (∀ w, Calls Try.prog 15 #[.float .f64 b, .float .f64 a] w fun e w' => e = .returned (.int .i64 (-X)) ∧ w = w'))
    (PAB : Hid (∀ w, Calls Try.prog 17 #[.float .f64 a, .float .f64 b] w fun e w' => e = .returned (.int .i64 X) ∧ w = w'))
    (K1 : Hid (∀ w, Calls Try.prog 18 #[.float .f64 a] w fun e w' => e = .returned (.float .f64 (fclamp a)) ∧ w = w'))
    (K2 : Hid (∀ w, Calls Try.prog 12 #[.float .f64 a] w fun e w' => e = .returned (.float .f64 (fclamp a)) ∧ w = w'))
    (SM : Hid (∀ w, Calls Try.prog 9 #[.float .f64 (fclamp a), .float .f64 (fclamp a)] w fun e w' => e = .returned (.bool true) ∧ w = w')) :
    Calls Try.prog 4 #[.float .f64 a, .float .f64 b, .float .f64 c] W fun e w' => e = .returned (.bool true) ∧ Below W.heap.size W w' := by
  have f0 : decide (1 ≤ p) = false := by simp; omega
  have f1 : (p == 0) = true := by simp; omega
  have f2 : decide (0 < X) = true := by simp; omega
  have f3 : (X != 0) = true := by simp; omega
  have e1 : (p == p) = true := by simp
  have e2 : (X == X) = true := by simp
  have e3 : ((-X) == (-X)) = true := by simp
  have e4 : IntKind.i64.wrap (-X) = -X := IntWalk.i64_in _ (by omega)
  clear hp hX hb
  go_enter Try.func4, Try.ntmps4
  go_wp2_with fail
  refine (awake_any W).mono ?_
  rintro e w1 ⟨rfl, hb1⟩
  have HB := Lib.hid hb1
  clear hb1
  go_wp2_with fail
  refine (C1.out _).mono ?_
  rintro e wx ⟨rfl, rfl⟩
  go_wp2_with fail
  refine (AB.out _).mono ?_
  rintro e wx ⟨rfl, rfl⟩
  go_wp2_with fail
  refine (BC.out _).mono ?_
  rintro e wx ⟨rfl, rfl⟩
  go_wp2_with fail
  refine (AC.out _).mono ?_
  rintro e wx ⟨rfl, rfl⟩
  go_wp2_with fail
  refine (C2.out _).mono ?_
  rintro e wx ⟨rfl, rfl⟩
  go_wp2_with fail
  refine (C3.out _).mono ?_
  rintro e wx ⟨rfl, rfl⟩
  go_wp2_with fail
  refine (PAB.out _).mono ?_
  rintro e wx ⟨rfl, rfl⟩
  go_wp2_with fail
  refine (BA.out _).mono ?_
  rintro e wx ⟨rfl, rfl⟩
  go_wp2_with fail
  refine (K1.out _).mono ?_
  rintro e wx ⟨rfl, rfl⟩
  go_wp2_with fail
  refine (K2.out _).mono ?_
  rintro e wx ⟨rfl, rfl⟩
  go_wp2_with fail
  refine (SM.out _).mono ?_
  rintro e wx ⟨rfl, rfl⟩
  go_wp2
  go_ret
  exact ⟨rfl, HB.out⟩
set_option maxHeartbeats 1000000 in
theorem law_b2 (a b c : Nat) (p X Y Z : Int) (W : World) (hb : -1 ≤ X ∧ X ≤ 1) (hp : p = 0) (hX : X < 0 ∧ 0 < Y)
    (C1 : Hid (∀ w, Calls Try.prog 14 #[.float .f64 a] w fun e w' => e = .returned (.int .i64 p) ∧ w = w'))
    (C2 : Hid (∀ w, Calls Try.prog 13 #[.float .f64 a] w fun e w' => e = .returned (.int .i64 p) ∧ w = w'))
    (C3 : Hid (∀ w, Calls Try.prog 16 #[.float .f64 a] w fun e w' => e = .returned (.int .i64 (0)) ∧ w = w'))
    (AB : Hid (∀ w, Calls Try.prog 15 #[.float .f64 a, .float .f64 b] w fun e w' => e = .returned (.int .i64 X) ∧ w = w'))
    (BC : Hid (∀ w, Calls Try.prog 15 #[.float .f64 b, .float .f64 c] w fun e w' => e = .returned (.int .i64 Y) ∧ w = w'))
    (AC : Hid (∀ w, Calls Try.prog 15 #[.float .f64 a, .float .f64 c] w fun e w' => e = .returned (.int .i64 Z) ∧ w = w'))
    (BA : Hid (∀ w, Calls Try.prog 15 #[.float .f64 b, .float .f64 a] w fun e w' => e = .returned (.int .i64 (-X)) ∧ w = w'))
    (PAB : Hid (∀ w, Calls Try.prog 17 #[.float .f64 a, .float .f64 b] w fun e w' => e = .returned (.int .i64 X) ∧ w = w'))
    (K1 : Hid (∀ w, Calls Try.prog 18 #[.float .f64 a] w fun e w' => e = .returned (.float .f64 (fclamp a)) ∧ w = w'))
    (K2 : Hid (∀ w, Calls Try.prog 12 #[.float .f64 a] w fun e w' => e = .returned (.float .f64 (fclamp a)) ∧ w = w'))
    (SM : Hid (∀ w, Calls Try.prog 9 #[.float .f64 (fclamp a), .float .f64 (fclamp a)] w fun e w' => e = .returned (.bool true) ∧ w = w')) :
    Calls Try.prog 4 #[.float .f64 a, .float .f64 b, .float .f64 c] W fun e w' => e = .returned (.bool true) ∧ Below W.heap.size W w' := by
  have f0 : decide (1 ≤ p) = false := by simp; omega
  have f1 : (p == 0) = true := by simp; omega
  have f2 : decide (0 < X) = false := by simp; omega
  have f3 : decide (0 < Y) = true := by simp; omega
  have f4 : (X != 0) = true := by simp; omega
  have e1 : (p == p) = true := by simp
  have e2 : (X == X) = true := by simp
  have e3 : ((-X) == (-X)) = true := by simp
  have e4 : IntKind.i64.wrap (-X) = -X := IntWalk.i64_in _ (by omega)
  clear hp hX hb
  go_enter Try.func4, Try.ntmps4
  go_wp2_with fail
  refine (awake_any W).mono ?_
  rintro e w1 ⟨rfl, hb1⟩
  have HB := Lib.hid hb1
  clear hb1
  go_wp2_with fail
  refine (C1.out _).mono ?_
  rintro e wx ⟨rfl, rfl⟩
  go_wp2_with fail
  refine (AB.out _).mono ?_
  rintro e wx ⟨rfl, rfl⟩
  go_wp2_with fail
  refine (BC.out _).mono ?_
  rintro e wx ⟨rfl, rfl⟩
  go_wp2_with fail
  refine (AC.out _).mono ?_
  rintro e wx ⟨rfl, rfl⟩
  go_wp2_with fail
  refine (C2.out _).mono ?_
  rintro e wx ⟨rfl, rfl⟩
  go_wp2_with fail
  refine (C3.out _).mono ?_
  rintro e wx ⟨rfl, rfl⟩
  go_wp2_with fail
  refine (PAB.out _).mono ?_
  rintro e wx ⟨rfl, rfl⟩
  go_wp2_with fail
  refine (BA.out _).mono ?_
  rintro e wx ⟨rfl, rfl⟩
  go_wp2_with fail
  refine (K1.out _).mono ?_
  rintro e wx ⟨rfl, rfl⟩
  go_wp2_with fail
  refine (K2.out _).mono ?_
  rintro e wx ⟨rfl, rfl⟩
  go_wp2_with fail
  refine (SM.out _).mono ?_
  rintro e wx ⟨rfl, rfl⟩
  go_wp2
  go_ret
  exact ⟨rfl, HB.out⟩
set_option maxHeartbeats 1000000 in
theorem law_b3 (a b c : Nat) (p X Y Z : Int) (W : World) (hb : -1 ≤ X ∧ X ≤ 1) (hp : p = 0) (hX : X = 0 ∧ 0 < Y)
    (C1 : Hid (∀ w, Calls Try.prog 14 #[.float .f64 a] w fun e w' => e = .returned (.int .i64 p) ∧ w = w'))
    (C2 : Hid (∀ w, Calls Try.prog 13 #[.float .f64 a] w fun e w' => e = .returned (.int .i64 p) ∧ w = w'))
    (C3 : Hid (∀ w, Calls Try.prog 16 #[.float .f64 a] w fun e w' => e = .returned (.int .i64 (0)) ∧ w = w'))
    (AB : Hid (∀ w, Calls Try.prog 15 #[.float .f64 a, .float .f64 b] w fun e w' => e = .returned (.int .i64 X) ∧ w = w'))
    (BC : Hid (∀ w, Calls Try.prog 15 #[.float .f64 b, .float .f64 c] w fun e w' => e = .returned (.int .i64 Y) ∧ w = w'))
    (AC : Hid (∀ w, Calls Try.prog 15 #[.float .f64 a, .float .f64 c] w fun e w' => e = .returned (.int .i64 Z) ∧ w = w'))
    (BA : Hid (∀ w, Calls Try.prog 15 #[.float .f64 b, .float .f64 a] w fun e w' => e = .returned (.int .i64 (-X)) ∧ w = w'))
    (PAB : Hid (∀ w, Calls Try.prog 17 #[.float .f64 a, .float .f64 b] w fun e w' => e = .returned (.int .i64 X) ∧ w = w'))
    (K1 : Hid (∀ w, Calls Try.prog 18 #[.float .f64 a] w fun e w' => e = .returned (.float .f64 (fclamp a)) ∧ w = w'))
    (K2 : Hid (∀ w, Calls Try.prog 12 #[.float .f64 a] w fun e w' => e = .returned (.float .f64 (fclamp a)) ∧ w = w'))
    (SM : Hid (∀ w, Calls Try.prog 9 #[.float .f64 (fclamp a), .float .f64 (fclamp a)] w fun e w' => e = .returned (.bool true) ∧ w = w')) :
    Calls Try.prog 4 #[.float .f64 a, .float .f64 b, .float .f64 c] W fun e w' => e = .returned (.bool true) ∧ Below W.heap.size W w' := by
  have f0 : decide (1 ≤ p) = false := by simp; omega
  have f1 : (p == 0) = true := by simp; omega
  have f2 : decide (0 < X) = false := by simp; omega
  have f3 : decide (0 < Y) = true := by simp; omega
  have f4 : (X != 0) = false := by simp; omega
  have f5 : (Y != 0) = true := by simp; omega
  have e1 : (p == p) = true := by simp
  have e2 : (X == X) = true := by simp
  have e3 : ((-X) == (-X)) = true := by simp
  have e4 : IntKind.i64.wrap (-X) = -X := IntWalk.i64_in _ (by omega)
  clear hp hX hb
  go_enter Try.func4, Try.ntmps4
  go_wp2_with fail
  refine (awake_any W).mono ?_
  rintro e w1 ⟨rfl, hb1⟩
  have HB := Lib.hid hb1
  clear hb1
  go_wp2_with fail
  refine (C1.out _).mono ?_
  rintro e wx ⟨rfl, rfl⟩
  go_wp2_with fail
  refine (AB.out _).mono ?_
  rintro e wx ⟨rfl, rfl⟩
  go_wp2_with fail
  refine (BC.out _).mono ?_
  rintro e wx ⟨rfl, rfl⟩
  go_wp2_with fail
  refine (AC.out _).mono ?_
  rintro e wx ⟨rfl, rfl⟩
  go_wp2_with fail
  refine (C2.out _).mono ?_
  rintro e wx ⟨rfl, rfl⟩
  go_wp2_with fail
  refine (C3.out _).mono ?_
  rintro e wx ⟨rfl, rfl⟩
  go_wp2_with fail
  refine (PAB.out _).mono ?_
  rintro e wx ⟨rfl, rfl⟩
  go_wp2_with fail
  refine (BA.out _).mono ?_
  rintro e wx ⟨rfl, rfl⟩
  go_wp2_with fail
  refine (K1.out _).mono ?_
  rintro e wx ⟨rfl, rfl⟩
  go_wp2_with fail
  refine (K2.out _).mono ?_
  rintro e wx ⟨rfl, rfl⟩
  go_wp2_with fail
  refine (SM.out _).mono ?_
  rintro e wx ⟨rfl, rfl⟩
  go_wp2
  go_ret
  exact ⟨rfl, HB.out⟩
set_option maxHeartbeats 1000000 in
theorem law_b4 (a b c : Nat) (p X Y Z : Int) (W : World) (hb : -1 ≤ X ∧ X ≤ 1) (hp : p = 0) (hX : X < 0 ∧ Y ≤ 0 ∧ Z ≤ 0)
    (C1 : Hid (∀ w, Calls Try.prog 14 #[.float .f64 a] w fun e w' => e = .returned (.int .i64 p) ∧ w = w'))
    (C2 : Hid (∀ w, Calls Try.prog 13 #[.float .f64 a] w fun e w' => e = .returned (.int .i64 p) ∧ w = w'))
    (C3 : Hid (∀ w, Calls Try.prog 16 #[.float .f64 a] w fun e w' => e = .returned (.int .i64 (0)) ∧ w = w'))
    (AB : Hid (∀ w, Calls Try.prog 15 #[.float .f64 a, .float .f64 b] w fun e w' => e = .returned (.int .i64 X) ∧ w = w'))
    (BC : Hid (∀ w, Calls Try.prog 15 #[.float .f64 b, .float .f64 c] w fun e w' => e = .returned (.int .i64 Y) ∧ w = w'))
    (AC : Hid (∀ w, Calls Try.prog 15 #[.float .f64 a, .float .f64 c] w fun e w' => e = .returned (.int .i64 Z) ∧ w = w'))
    (BA : Hid (∀ w, Calls Try.prog 15 #[.float .f64 b, .float .f64 a] w fun e w' => e = .returned (.int .i64 (-X)) ∧ w = w'))
    (PAB : Hid (∀ w, Calls Try.prog 17 #[.float .f64 a, .float .f64 b] w fun e w' => e = .returned (.int .i64 X) ∧ w = w'))
    (K1 : Hid (∀ w, Calls Try.prog 18 #[.float .f64 a] w fun e w' => e = .returned (.float .f64 (fclamp a)) ∧ w = w'))
    (K2 : Hid (∀ w, Calls Try.prog 12 #[.float .f64 a] w fun e w' => e = .returned (.float .f64 (fclamp a)) ∧ w = w'))
    (SM : Hid (∀ w, Calls Try.prog 9 #[.float .f64 (fclamp a), .float .f64 (fclamp a)] w fun e w' => e = .returned (.bool true) ∧ w = w')) :
    Calls Try.prog 4 #[.float .f64 a, .float .f64 b, .float .f64 c] W fun e w' => e = .returned (.bool true) ∧ Below W.heap.size W w' := by
  have f0 : decide (1 ≤ p) = false := by simp; omega
  have f1 : (p == 0) = true := by simp; omega
  have f2 : decide (0 < X) = false := by simp; omega
  have f3 : decide (0 < Y) = false := by simp; omega
  have f4 : decide (Z ≤ 0) = true := by simp; omega
  have f5 : (X != 0) = true := by simp; omega
  have e1 : (p == p) = true := by simp
  have e2 : (X == X) = true := by simp
  have e3 : ((-X) == (-X)) = true := by simp
  have e4 : IntKind.i64.wrap (-X) = -X := IntWalk.i64_in _ (by omega)
  clear hp hX hb
  go_enter Try.func4, Try.ntmps4
  go_wp2_with fail
  refine (awake_any W).mono ?_
  rintro e w1 ⟨rfl, hb1⟩
  have HB := Lib.hid hb1
  clear hb1
  go_wp2_with fail
  refine (C1.out _).mono ?_
  rintro e wx ⟨rfl, rfl⟩
  go_wp2_with fail
  refine (AB.out _).mono ?_
  rintro e wx ⟨rfl, rfl⟩
  go_wp2_with fail
  refine (BC.out _).mono ?_
  rintro e wx ⟨rfl, rfl⟩
  go_wp2_with fail
  refine (AC.out _).mono ?_
  rintro e wx ⟨rfl, rfl⟩
  go_wp2_with fail
  refine (C2.out _).mono ?_
  rintro e wx ⟨rfl, rfl⟩
  go_wp2_with fail
  refine (C3.out _).mono ?_
  rintro e wx ⟨rfl, rfl⟩
  go_wp2_with fail
  refine (PAB.out _).mono ?_
  rintro e wx ⟨rfl, rfl⟩
  go_wp2_with fail
  refine (BA.out _).mono ?_
  rintro e wx ⟨rfl, rfl⟩
  go_wp2_with fail
  refine (K1.out _).mono ?_
  rintro e wx ⟨rfl, rfl⟩
  go_wp2_with fail
  refine (K2.out _).mono ?_
  rintro e wx ⟨rfl, rfl⟩
  go_wp2_with fail
  refine (SM.out _).mono ?_
  rintro e wx ⟨rfl, rfl⟩
  go_wp2
  go_ret
  exact ⟨rfl, HB.out⟩
set_option maxHeartbeats 1000000 in
theorem law_b5 (a b c : Nat) (p X Y Z : Int) (W : World) (hb : -1 ≤ X ∧ X ≤ 1) (hp : p = 0) (hX : X = 0 ∧ Y < 0 ∧ Z ≤ 0)
    (C1 : Hid (∀ w, Calls Try.prog 14 #[.float .f64 a] w fun e w' => e = .returned (.int .i64 p) ∧ w = w'))
    (C2 : Hid (∀ w, Calls Try.prog 13 #[.float .f64 a] w fun e w' => e = .returned (.int .i64 p) ∧ w = w'))
    (C3 : Hid (∀ w, Calls Try.prog 16 #[.float .f64 a] w fun e w' => e = .returned (.int .i64 (0)) ∧ w = w'))
    (AB : Hid (∀ w, Calls Try.prog 15 #[.float .f64 a, .float .f64 b] w fun e w' => e = .returned (.int .i64 X) ∧ w = w'))
    (BC : Hid (∀ w, Calls Try.prog 15 #[.float .f64 b, .float .f64 c] w fun e w' => e = .returned (.int .i64 Y) ∧ w = w'))
    (AC : Hid (∀ w, Calls Try.prog 15 #[.float .f64 a, .float .f64 c] w fun e w' => e = .returned (.int .i64 Z) ∧ w = w'))
    (BA : Hid (∀ w, Calls Try.prog 15 #[.float .f64 b, .float .f64 a] w fun e w' => e = .returned (.int .i64 (-X)) ∧ w = w'))
    (PAB : Hid (∀ w, Calls Try.prog 17 #[.float .f64 a, .float .f64 b] w fun e w' => e = .returned (.int .i64 X) ∧ w = w'))
    (K1 : Hid (∀ w, Calls Try.prog 18 #[.float .f64 a] w fun e w' => e = .returned (.float .f64 (fclamp a)) ∧ w = w'))
    (K2 : Hid (∀ w, Calls Try.prog 12 #[.float .f64 a] w fun e w' => e = .returned (.float .f64 (fclamp a)) ∧ w = w'))
    (SM : Hid (∀ w, Calls Try.prog 9 #[.float .f64 (fclamp a), .float .f64 (fclamp a)] w fun e w' => e = .returned (.bool true) ∧ w = w')) :
    Calls Try.prog 4 #[.float .f64 a, .float .f64 b, .float .f64 c] W fun e w' => e = .returned (.bool true) ∧ Below W.heap.size W w' := by
  have f0 : decide (1 ≤ p) = false := by simp; omega
  have f1 : (p == 0) = true := by simp; omega
  have f2 : decide (0 < X) = false := by simp; omega
  have f3 : decide (0 < Y) = false := by simp; omega
  have f4 : decide (Z ≤ 0) = true := by simp; omega
  have f5 : (X != 0) = false := by simp; omega
  have f6 : (Y != 0) = true := by simp; omega
  have e1 : (p == p) = true := by simp
  have e2 : (X == X) = true := by simp
  have e3 : ((-X) == (-X)) = true := by simp
  have e4 : IntKind.i64.wrap (-X) = -X := IntWalk.i64_in _ (by omega)
  clear hp hX hb
  go_enter Try.func4, Try.ntmps4
  go_wp2_with fail
  refine (awake_any W).mono ?_
  rintro e w1 ⟨rfl, hb1⟩
  have HB := Lib.hid hb1
  clear hb1
  go_wp2_with fail
  refine (C1.out _).mono ?_
  rintro e wx ⟨rfl, rfl⟩
  go_wp2_with fail
  refine (AB.out _).mono ?_
  rintro e wx ⟨rfl, rfl⟩
  go_wp2_with fail
  refine (BC.out _).mono ?_
  rintro e wx ⟨rfl, rfl⟩
  go_wp2_with fail
  refine (AC.out _).mono ?_
  rintro e wx ⟨rfl, rfl⟩
  go_wp2_with fail
  refine (C2.out _).mono ?_
  rintro e wx ⟨rfl, rfl⟩
  go_wp2_with fail
  refine (C3.out _).mono ?_
  rintro e wx ⟨rfl, rfl⟩
  go_wp2_with fail
  refine (PAB.out _).mono ?_
  rintro e wx ⟨rfl, rfl⟩
  go_wp2_with fail
  refine (BA.out _).mono ?_
  rintro e wx ⟨rfl, rfl⟩
  go_wp2_with fail
  refine (K1.out _).mono ?_
  rintro e wx ⟨rfl, rfl⟩
  go_wp2_with fail
  refine (K2.out _).mono ?_
  rintro e wx ⟨rfl, rfl⟩
  go_wp2_with fail
  refine (SM.out _).mono ?_
  rintro e wx ⟨rfl, rfl⟩
  go_wp2
  go_ret
  exact ⟨rfl, HB.out⟩
set_option maxHeartbeats 1000000 in
theorem law_b6 (a b c : Nat) (p X Y Z : Int) (W : World) (hb : -1 ≤ X ∧ X ≤ 1) (hp : p = 0) (hX : X = 0 ∧ Y = 0 ∧ Z = 0)
    (C1 : Hid (∀ w, Calls Try.prog 14 #[.float .f64 a] w fun e w' => e = .returned (.int .i64 p) ∧ w = w'))
    (C2 : Hid (∀ w, Calls Try.prog 13 #[.float .f64 a] w fun e w' => e = .returned (.int .i64 p) ∧ w = w'))
    (C3 : Hid (∀ w, Calls Try.prog 16 #[.float .f64 a] w fun e w' => e = .returned (.int .i64 (0)) ∧ w = w'))
    (AB : Hid (∀ w, Calls Try.prog 15 #[.float .f64 a, .float .f64 b] w fun e w' => e = .returned (.int .i64 X) ∧ w = w'))
    (BC : Hid (∀ w, Calls Try.prog 15 #[.float .f64 b, .float .f64 c] w fun e w' => e = .returned (.int .i64 Y) ∧ w = w'))
    (AC : Hid (∀ w, Calls Try.prog 15 #[.float .f64 a, .float .f64 c] w fun e w' => e = .returned (.int .i64 Z) ∧ w = w'))
    (BA : Hid (∀ w, Calls Try.prog 15 #[.float .f64 b, .float .f64 a] w fun e w' => e = .returned (.int .i64 (-X)) ∧ w = w'))
    (PAB : Hid (∀ w, Calls Try.prog 17 #[.float .f64 a, .float .f64 b] w fun e w' => e = .returned (.int .i64 X) ∧ w = w'))
    (K1 : Hid (∀ w, Calls Try.prog 18 #[.float .f64 a] w fun e w' => e = .returned (.float .f64 (fclamp a)) ∧ w = w'))
    (K2 : Hid (∀ w, Calls Try.prog 12 #[.float .f64 a] w fun e w' => e = .returned (.float .f64 (fclamp a)) ∧ w = w'))
    (SM : Hid (∀ w, Calls Try.prog 9 #[.float .f64 (fclamp a), .float .f64 (fclamp a)] w fun e w' => e = .returned (.bool true) ∧ w = w')) :
    Calls Try.prog 4 #[.float .f64 a, .float .f64 b, .float .f64 c] W fun e w' => e = .returned (.bool true) ∧ Below W.heap.size W w' := by
  have f0 : decide (1 ≤ p) = false := by simp; omega
  have f1 : (p == 0) = true := by simp; omega
  have f2 : decide (0 < X) = false := by simp; omega
  have f3 : decide (0 < Y) = false := by simp; omega
  have f4 : decide (Z ≤ 0) = true := by simp; omega
  have f5 : (X != 0) = false := by simp; omega
  have f6 : (Y != 0) = false := by simp; omega
  have f7 : (Z == 0) = true := by simp; omega
  have e1 : (p == p) = true := by simp
  have e2 : (X == X) = true := by simp
  have e3 : ((-X) == (-X)) = true := by simp
  have e4 : IntKind.i64.wrap (-X) = -X := IntWalk.i64_in _ (by omega)
  clear hp hX hb
  go_enter Try.func4, Try.ntmps4
  go_wp2_with fail
  refine (awake_any W).mono ?_
  rintro e w1 ⟨rfl, hb1⟩
  have HB := Lib.hid hb1
  clear hb1
  go_wp2_with fail
  refine (C1.out _).mono ?_
  rintro e wx ⟨rfl, rfl⟩
  go_wp2_with fail
  refine (AB.out _).mono ?_
  rintro e wx ⟨rfl, rfl⟩
  go_wp2_with fail
  refine (BC.out _).mono ?_
  rintro e wx ⟨rfl, rfl⟩
  go_wp2_with fail
  refine (AC.out _).mono ?_
  rintro e wx ⟨rfl, rfl⟩
  go_wp2_with fail
  refine (C2.out _).mono ?_
  rintro e wx ⟨rfl, rfl⟩
  go_wp2_with fail
  refine (C3.out _).mono ?_
  rintro e wx ⟨rfl, rfl⟩
  go_wp2_with fail
  refine (PAB.out _).mono ?_
  rintro e wx ⟨rfl, rfl⟩
  go_wp2_with fail
  refine (BA.out _).mono ?_
  rintro e wx ⟨rfl, rfl⟩
  go_wp2_with fail
  refine (K1.out _).mono ?_
  rintro e wx ⟨rfl, rfl⟩
  go_wp2_with fail
  refine (K2.out _).mono ?_
  rintro e wx ⟨rfl, rfl⟩
  go_wp2_with fail
  refine (SM.out _).mono ?_
  rintro e wx ⟨rfl, rfl⟩
  go_wp2
  go_ret
  exact ⟨rfl, HB.out⟩
set_option maxHeartbeats 1000000 in
theorem law_c1 (a b c : Nat) (p X Y Z : Int) (W : World) (hb : -1 ≤ X ∧ X ≤ 1) (hp : p = 4) (hX : 0 < X)
    (C1 : Hid (∀ w, Calls Try.prog 14 #[.float .f64 a] w fun e w' => e = .returned (.int .i64 p) ∧ w = w'))
    (C2 : Hid (∀ w, Calls Try.prog 13 #[.float .f64 a] w fun e w' => e = .returned (.int .i64 p) ∧ w = w'))
    (C3 : Hid (∀ w, Calls Try.prog 16 #[.float .f64 a] w fun e w' => e = .returned (.int .i64 (0)) ∧ w = w'))
    (AB : Hid (∀ w, Calls Try.prog 15 #[.float .f64 a, .float .f64 b] w fun e w' => e = .returned (.int .i64 X) ∧ w = w'))
    (BC : Hid (∀ w, Calls Try.prog 15 #[.float .f64 b, .float .f64 c] w fun e w' => e = .returned (.int .i64 Y) ∧ w = w'))
    (AC : Hid (∀ w, Calls Try.prog 15 #[.float .f64 a, .float .f64 c] w fun e w' => e = .returned (.int .i64 Z) ∧ w = w'))
    (BA : Hid (∀ w, Calls Try.prog 15 #[.float .f64 b, .float .f64 a] w fun e w' => e = .returned (.int .i64 (-X)) ∧ w = w'))
    (PAB : Hid (∀ w, Calls Try.prog 17 #[.float .f64 a, .float .f64 b] w fun e w' => e = .returned (.int .i64 X) ∧ w = w'))
    (K1 : Hid (∀ w, Calls Try.prog 18 #[.float .f64 a] w fun e w' => e = .returned (.float .f64 (fclamp a)) ∧ w = w'))
    (K2 : Hid (∀ w, Calls Try.prog 12 #[.float .f64 a] w fun e w' => e = .returned (.float .f64 (fclamp a)) ∧ w = w'))
    (SM : Hid (∀ w, Calls Try.prog 9 #[.float .f64 (fclamp a), .float .f64 (fclamp a)] w fun e w' => e = .returned (.bool true) ∧ w = w')) :
    Calls Try.prog 4 #[.float .f64 a, .float .f64 b, .float .f64 c] W fun e w' => e = .returned (.bool true) ∧ Below W.heap.size W w' := by
  have f0 : decide (1 ≤ p) = true := by simp; omega
  have f1 : decide (p ≤ 3) = false := by simp; omega
  have f2 : (p == 0) = false := by rw [beq_eq_false_iff_ne]; omega
  have f3 : (p == 4) = true := by simp; omega
  have f4 : decide (0 < X) = true := by simp; omega
  have f5 : (X != 0) = true := by simp; omega
  have e1 : (p == p) = true := by simp
  have e2 : (X == X) = true := by simp
  have e3 : ((-X) == (-X)) = true := by simp
  have e4 : IntKind.i64.wrap (-X) = -X := IntWalk.i64_in _ (by omega)
  clear hp hX hb
  go_enter Try.func4, Try.ntmps4
  go_wp2_with fail
  refine (awake_any W).mono ?_
  rintro e w1 ⟨rfl, hb1⟩
  have HB := Lib.hid hb1
  clear hb1
  go_wp2_with fail
  refine (C1.out _).mono ?_
  rintro e wx ⟨rfl, rfl⟩
  go_wp2_with fail
  refine (AB.out _).mono ?_
  rintro e wx ⟨rfl, rfl⟩
  go_wp2_with fail
  refine (BC.out _).mono ?_
  rintro e wx ⟨rfl, rfl⟩
  go_wp2_with fail
  refine (AC.out _).mono ?_
  rintro e wx ⟨rfl, rfl⟩
  go_wp2_with fail
  refine (C2.out _).mono ?_
  rintro e wx ⟨rfl, rfl⟩
  go_wp2_with fail
  refine (C3.out _).mono ?_
  rintro e wx ⟨rfl, rfl⟩
  go_wp2_with fail
  refine (PAB.out _).mono ?_
  rintro e wx ⟨rfl, rfl⟩
  go_wp2_with fail
  refine (BA.out _).mono ?_
  rintro e wx ⟨rfl, rfl⟩
  go_wp2_with fail
  refine (K1.out _).mono ?_
  rintro e wx ⟨rfl, rfl⟩
  go_wp2_with fail
  refine (K2.out _).mono ?_
  rintro e wx ⟨rfl, rfl⟩
  go_wp2_with fail
  refine (SM.out _).mono ?_
  rintro e wx ⟨rfl, rfl⟩
  go_wp2
  go_ret
  exact ⟨rfl, HB.out⟩
set_option maxHeartbeats 1000000 in
theorem law_c2 (a b c : Nat) (p X Y Z : Int) (W : World) (hb : -1 ≤ X ∧ X ≤ 1) (hp : p = 4) (hX : X < 0 ∧ 0 < Y)
    (C1 : Hid (∀ w, Calls Try.prog 14 #[.float .f64 a] w fun e w' => e = .returned (.int .i64 p) ∧ w = w'))
    (C2 : Hid (∀ w, Calls Try.prog 13 #[.float .f64 a] w fun e w' => e = .returned (.int .i64 p) ∧ w = w'))
    (C3 : Hid (∀ w, Calls Try.prog 16 #[.float .f64 a] w fun e w' => e = .returned (.int .i64 (0)) ∧ w = w'))
    (AB : Hid (∀ w, Calls Try.prog 15 #[.float .f64 a, .float .f64 b] w fun e w' => e = .returned (.int .i64 X) ∧ w = w'))
    (BC : Hid (∀ w, Calls Try.prog 15 #[.float .f64 b, .float .f64 c] w fun e w' => e = .returned (.int .i64 Y) ∧ w = w'))
    (AC : Hid (∀ w, Calls Try.prog 15 #[.float .f64 a, .float .f64 c] w fun e w' => e = .returned (.int .i64 Z) ∧ w = w'))
    (BA : Hid (∀ w, Calls Try.prog 15 #[.float .f64 b, .float .f64 a] w fun e w' => e = .returned (.int .i64 (-X)) ∧ w = w'))
    (PAB : Hid (∀ w, Calls Try.prog 17 #[.float .f64 a, .float .f64 b] w fun e w' => e = .returned (.int .i64 X) ∧ w = w'))
    (K1 : Hid (∀ w, Calls Try.prog 18 #[.float .f64 a] w fun e w' => e = .returned (.float .f64 (fclamp a)) ∧ w = w'))
    (K2 : Hid (∀ w, Calls Try.prog 12 #[.float .f64 a] w fun e w' => e = .returned (.float .f64 (fclamp a)) ∧ w = w'))
    (SM : Hid (∀ w, Calls Try.prog 9 #[.float .f64 (fclamp a), .float .f64 (fclamp a)] w fun e w' => e = .returned (.bool true) ∧ w = w')) :
    Calls Try.prog 4 #[.float .f64 a, .float .f64 b, .float .f64 c] W fun e w' => e = .returned (.bool true) ∧ Below W.heap.size W w' := by
  have f0 : decide (1 ≤ p) = true := by simp; omega
  have f1 : decide (p ≤ 3) = false := by simp; omega
  have f2 : (p == 0) = false := by rw [beq_eq_false_iff_ne]; omega
  have f3 : (p == 4) = true := by simp; omega
  have f4 : decide (0 < X) = false := by simp; omega
  have f5 : decide (0 < Y) = true := by simp; omega
  have f6 : (X != 0) = true := by simp; omega
  have e1 : (p == p) = true := by simp
  have e2 : (X == X) = true := by simp
  have e3 : ((-X) == (-X)) = true := by simp
  have e4 : IntKind.i64.wrap (-X) = -X := IntWalk.i64_in _ (by omega)
  clear hp hX hb
  go_enter Try.func4, Try.ntmps4
  go_wp2_with fail
  refine (awake_any W).mono ?_
  rintro e w1 ⟨rfl, hb1⟩
  have HB := Lib.hid hb1
  clear hb1
  go_wp2_with fail
  refine (C1.out _).mono ?_
  rintro e wx ⟨rfl, rfl⟩
  go_wp2_with fail
  refine (AB.out _).mono ?_
  rintro e wx ⟨rfl, rfl⟩
  go_wp2_with fail
  refine (BC.out _).mono ?_
  rintro e wx ⟨rfl, rfl⟩
  go_wp2_with fail
  refine (AC.out _).mono ?_
  rintro e wx ⟨rfl, rfl⟩
  go_wp2_with fail
  refine (C2.out _).mono ?_
  rintro e wx ⟨rfl, rfl⟩
  go_wp2_with fail
  refine (C3.out _).mono ?_
  rintro e wx ⟨rfl, rfl⟩
  go_wp2_with fail
  refine (PAB.out _).mono ?_
  rintro e wx ⟨rfl, rfl⟩
  go_wp2_with fail
  refine (BA.out _).mono ?_
  rintro e wx ⟨rfl, rfl⟩
  go_wp2_with fail
  refine (K1.out _).mono ?_
  rintro e wx ⟨rfl, rfl⟩
  go_wp2_with fail
  refine (K2.out _).mono ?_
  rintro e wx ⟨rfl, rfl⟩
  go_wp2_with fail
  refine (SM.out _).mono ?_
  rintro e wx ⟨rfl, rfl⟩
  go_wp2
  go_ret
  exact ⟨rfl, HB.out⟩
set_option maxHeartbeats 1000000 in
theorem law_c3 (a b c : Nat) (p X Y Z : Int) (W : World) (hb : -1 ≤ X ∧ X ≤ 1) (hp : p = 4) (hX : X = 0 ∧ 0 < Y)
    (C1 : Hid (∀ w, Calls Try.prog 14 #[.float .f64 a] w fun e w' => e = .returned (.int .i64 p) ∧ w = w'))
    (C2 : Hid (∀ w, Calls Try.prog 13 #[.float .f64 a] w fun e w' => e = .returned (.int .i64 p) ∧ w = w'))
    (C3 : Hid (∀ w, Calls Try.prog 16 #[.float .f64 a] w fun e w' => e = .returned (.int .i64 (0)) ∧ w = w'))
    (AB : Hid (∀ w, Calls Try.prog 15 #[.float .f64 a, .float .f64 b] w fun e w' => e = .returned (.int .i64 X) ∧ w = w'))
    (BC : Hid (∀ w, Calls Try.prog 15 #[.float .f64 b, .float .f64 c] w fun e w' => e = .returned (.int .i64 Y) ∧ w = w'))
    (AC : Hid (∀ w, Calls Try.prog 15 #[.float .f64 a, .float .f64 c] w fun e w' => e = .returned (.int .i64 Z) ∧ w = w'))
    (BA : Hid (∀ w, Calls Try.prog 15 #[.float .f64 b, .float .f64 a] w fun e w' => e = .returned (.int .i64 (-X)) ∧ w = w'))
    (PAB : Hid (∀ w, Calls Try.prog 17 #[.float .f64 a, .float .f64 b] w fun e w' => e = .returned (.int .i64 X) ∧ w = w'))
    (K1 : Hid (∀ w, Calls Try.prog 18 #[.float .f64 a] w fun e w' => e = .returned (.float .f64 (fclamp a)) ∧ w = w'))
    (K2 : Hid (∀ w, Calls Try.prog 12 #[.float .f64 a] w fun e w' => e = .returned (.float .f64 (fclamp a)) ∧ w = w'))
    (SM : Hid (∀ w, Calls Try.prog 9 #[.float .f64 (fclamp a), .float .f64 (fclamp a)] w fun e w' => e = .returned (.bool true) ∧ w = w')) :
    Calls Try.prog 4 #[.float .f64 a, .float .f64 b, .float .f64 c] W fun e w' => e = .returned (.bool true) ∧ Below W.heap.size W w' := by
  have f0 : decide (1 ≤ p) = true := by simp; omega
  have f1 : decide (p ≤ 3) = false := by simp; omega
  have f2 : (p == 0) = false := by rw [beq_eq_false_iff_ne]; omega
  have f3 : (p == 4) = true := by simp; omega
  have f4 : decide (0 < X) = false := by simp; omega
  have f5 : decide (0 < Y) = true := by simp; omega
  have f6 : (X != 0) = false := by simp; omega
  have f7 : (Y != 0) = true := by simp; omega
  have e1 : (p == p) = true := by simp
  have e2 : (X == X) = true := by simp
  have e3 : ((-X) == (-X)) = true := by simp
  have e4 : IntKind.i64.wrap (-X) = -X := IntWalk.i64_in _ (by omega)
  clear hp hX hb
  go_enter Try.func4, Try.ntmps4
  go_wp2_with fail
  refine (awake_any W).mono ?_
  rintro e w1 ⟨rfl, hb1⟩
  have HB := Lib.hid hb1
  clear hb1
  go_wp2_with fail
  refine (C1.out _).mono ?_
  rintro e wx ⟨rfl, rfl⟩
  go_wp2_with fail
  refine (AB.out _).mono ?_
  rintro e wx ⟨rfl, rfl⟩
  go_wp2_with fail
  refine (BC.out _).mono ?_
  rintro e wx ⟨rfl, rfl⟩
  go_wp2_with fail
  refine (AC.out _).mono ?_
  rintro e wx ⟨rfl, rfl⟩
  go_wp2_with fail
  refine (C2.out _).mono ?_
  rintro e wx ⟨rfl, rfl⟩
  go_wp2_with fail
  refine (C3.out _).mono ?_
  rintro e wx ⟨rfl, rfl⟩
  go_wp2_with fail
  refine (PAB.out _).mono ?_
  rintro e wx ⟨rfl, rfl⟩
  go_wp2_with fail
  refine (BA.out _).mono ?_
  rintro e wx ⟨rfl, rfl⟩
  go_wp2_with fail
  refine (K1.out _).mono ?_
  rintro e wx ⟨rfl, rfl⟩
  go_wp2_with fail
  refine (K2.out _).mono ?_
  rintro e wx ⟨rfl, rfl⟩
  go_wp2_with fail
  refine (SM.out _).mono ?_
  rintro e wx ⟨rfl, rfl⟩
  go_wp2
  go_ret
  exact ⟨rfl, HB.out⟩
set_option maxHeartbeats 1000000 in
theorem law_c4 (a b c : Nat) (p X Y Z : Int) (W : World) (hb : -1 ≤ X ∧ X ≤ 1) (hp : p = 4) (hX : X < 0 ∧ Y ≤ 0 ∧ Z ≤ 0)
    (C1 : Hid (∀ w, Calls Try.prog 14 #[.float .f64 a] w fun e w' => e = .returned (.int .i64 p) ∧ w = w'))
    (C2 : Hid (∀ w, Calls Try.prog 13 #[.float .f64 a] w fun e w' => e = .returned (.int .i64 p) ∧ w = w'))
    (C3 : Hid (∀ w, Calls Try.prog 16 #[.float .f64 a] w fun e w' => e = .returned (.int .i64 (0)) ∧ w = w'))
    (AB : Hid (∀ w, Calls Try.prog 15 #[.float .f64 a, .float .f64 b] w fun e w' => e = .returned (.int .i64 X) ∧ w = w'))
    (BC : Hid (∀ w, Calls Try.prog 15 #[.float .f64 b, .float .f64 c] w fun e w' => e = .returned (.int .i64 Y) ∧ w = w'))
    (AC : Hid (∀ w, Calls Try.prog 15 #[.float .f64 a, .float .f64 c] w fun e w' => e = .returned (.int .i64 Z) ∧ w = w'))
    (BA : Hid (∀ w, Calls Try.prog 15 #[.float .f64 b, .float .f64 a] w fun e w' => e = .returned (.int .i64 (-X)) ∧ w = w'))
    (PAB : Hid (∀ w, Calls Try.prog 17 #[.float .f64 a, .float .f64 b] w fun e w' => e = .returned (.int .i64 X) ∧ w = w'))
    (K1 : Hid (∀ w, Calls Try.prog 18 #[.float .f64 a] w fun e w' => e = .returned (.float .f64 (fclamp a)) ∧ w = w'))
    (K2 : Hid (∀ w, Calls Try.prog 12 #[.float .f64 a] w fun e w' => e = .returned (.float .f64 (fclamp a)) ∧ w = w'))
    (SM : Hid (∀ w, Calls Try.prog 9 #[.float .f64 (fclamp a), .float .f64 (fclamp a)] w fun e w' => e = .returned (.bool true) ∧ w = w')) :
    Calls Try.prog 4 #[.float .f64 a, .float .f64 b, .float .f64 c] W fun e w' => e = .returned (.bool true) ∧ Below W.heap.size W w' := by
  have f0 : decide (1 ≤ p) = true := by simp; omega
  have f1 : decide (p ≤ 3) = false := by simp; omega
  have f2 : (p == 0) = false := by rw [beq_eq_false_iff_ne]; omega
  have f3 : (p == 4) = true := by simp; omega
  have f4 : decide (0 < X) = false := by simp; omega
  have f5 : decide (0 < Y) = false := by simp; omega
  have f6 : decide (Z ≤ 0) = true := by simp; omega
  have f7 : (X != 0) = true := by simp; omega
  have e1 : (p == p) = true := by simp
  have e2 : (X == X) = true := by simp
  have e3 : ((-X) == (-X)) = true := by simp
  have e4 : IntKind.i64.wrap (-X) = -X := IntWalk.i64_in _ (by omega)
  clear hp hX hb
  go_enter Try.func4, Try.ntmps4
  go_wp2_with fail
  refine (awake_any W).mono ?_
  rintro e w1 ⟨rfl, hb1⟩
  have HB := Lib.hid hb1
  clear hb1
  go_wp2_with fail
  refine (C1.out _).mono ?_
  rintro e wx ⟨rfl, rfl⟩
  go_wp2_with fail
  refine (AB.out _).mono ?_
  rintro e wx ⟨rfl, rfl⟩
  go_wp2_with fail
  refine (BC.out _).mono ?_
  rintro e wx ⟨rfl, rfl⟩
  go_wp2_with fail
  refine (AC.out _).mono ?_
  rintro e wx ⟨rfl, rfl⟩
  go_wp2_with fail
  refine (C2.out _).mono ?_
  rintro e wx ⟨rfl, rfl⟩
  go_wp2_with fail
  refine (C3.out _).mono ?_
  rintro e wx ⟨rfl, rfl⟩
  go_wp2_with fail
  refine (PAB.out _).mono ?_
  rintro e wx ⟨rfl, rfl⟩
  go_wp2_with fail
  refine (BA.out _).mono ?_
  rintro e wx ⟨rfl, rfl⟩
  go_wp2_with fail
  refine (K1.out _).mono ?_
  rintro e wx ⟨rfl, rfl⟩
  go_wp2_with fail
  refine (K2.out _).mono ?_
  rintro e wx ⟨rfl, rfl⟩
  go_wp2_with fail
  refine (SM.out _).mono ?_
  rintro e wx ⟨rfl, rfl⟩
  go_wp2
  go_ret
  exact ⟨rfl, HB.out⟩
set_option maxHeartbeats 1000000 in
theorem law_c5 (a b c : Nat) (p X Y Z : Int) (W : World) (hb : -1 ≤ X ∧ X ≤ 1) (hp : p = 4) (hX : X = 0 ∧ Y < 0 ∧ Z ≤ 0)
    (C1 : Hid (∀ w, Calls Try.prog 14 #[.float .f64 a] w fun e w' => e = .returned (.int .i64 p) ∧ w = w'))
    (C2 : Hid (∀ w, Calls Try.prog 13 #[.float .f64 a] w fun e w' => e = .returned (.int .i64 p) ∧ w = w'))
    (C3 : Hid (∀ w, Calls Try.prog 16 #[.float .f64 a] w fun e w' => e = .returned (.int .i64 (0)) ∧ w = w'))
    (AB : Hid (∀ w, Calls Try.prog 15 #[.float .f64 a, .float .f64 b] w fun e w' => e = .returned (.int .i64 X) ∧ w = w'))
    (BC : Hid (∀ w, Calls Try.prog 15 #[.float .f64 b, .float .f64 c] w fun e w' => e = .returned (.int .i64 Y) ∧ w = w'))
    (AC : Hid (∀ w, Calls Try.prog 15 #[.float .f64 a, .float .f64 c] w fun e w' => e = .returned (.int .i64 Z) ∧ w = w'))
    (BA : Hid (∀ w, Calls Try.prog 15 #[.float .f64 b, .float .f64 a] w fun e w' => e = .returned (.int .i64 (-X)) ∧ w = w'))
    (PAB : Hid (∀ w, Calls Try.prog 17 #[.float .f64 a, .float .f64 b] w fun e w' => e = .returned (.int .i64 X) ∧ w = w'))
    (K1 : Hid (∀ w, Calls Try.prog 18 #[.float .f64 a] w fun e w' => e = .returned (.float .f64 (fclamp a)) ∧ w = w'))
    (K2 : Hid (∀ w, Calls Try.prog 12 #[.float .f64 a] w fun e w' => e = .returned (.float .f64 (fclamp a)) ∧ w = w'))
    (SM : Hid (∀ w, Calls Try.prog 9 #[.float .f64 (fclamp a), .float .f64 (fclamp a)] w fun e w' => e = .returned (.bool true) ∧ w = w')) :
    Calls Try.prog 4 #[.float .f64 a, .float .f64 b, .float .f64 c] W fun e w' => e = .returned (.bool true) ∧ Below W.heap.size W w' := by
  have f0 : decide (1 ≤ p) = true := by simp; omega
  have f1 : decide (p ≤ 3) = false := by simp; omega
  have f2 : (p == 0) = false := by rw [beq_eq_false_iff_ne]; omega
  have f3 : (p == 4) = true := by simp; omega
  have f4 : decide (0 < X) = false := by simp; omega
  have f5 : decide (0 < Y) = false := by simp; omega
  have f6 : decide (Z ≤ 0) = true := by simp; omega
  have f7 : (X != 0) = false := by simp; omega
  have f8 : (Y != 0) = true := by simp; omega
  have e1 : (p == p) = true := by simp
  have e2 : (X == X) = true := by simp
  have e3 : ((-X) == (-X)) = true := by simp
  have e4 : IntKind.i64.wrap (-X) = -X := IntWalk.i64_in _ (by omega)
  clear hp hX hb
  go_enter Try.func4, Try.ntmps4
  go_wp2_with fail
  refine (awake_any W).mono ?_
  rintro e w1 ⟨rfl, hb1⟩
  have HB := Lib.hid hb1
  clear hb1
  go_wp2_with fail
  refine (C1.out _).mono ?_
  rintro e wx ⟨rfl, rfl⟩
  go_wp2_with fail
  refine (AB.out _).mono ?_
  rintro e wx ⟨rfl, rfl⟩
  go_wp2_with fail
  refine (BC.out _).mono ?_
  rintro e wx ⟨rfl, rfl⟩
  go_wp2_with fail
  refine (AC.out _).mono ?_
  rintro e wx ⟨rfl, rfl⟩
  go_wp2_with fail
  refine (C2.out _).mono ?_
  rintro e wx ⟨rfl, rfl⟩
  go_wp2_with fail
  refine (C3.out _).mono ?_
  rintro e wx ⟨rfl, rfl⟩
  go_wp2_with fail
  refine (PAB.out _).mono ?_
  rintro e wx ⟨rfl, rfl⟩
  go_wp2_with fail
  refine (BA.out _).mono ?_
  rintro e wx ⟨rfl, rfl⟩
  go_wp2_with fail
  refine (K1.out _).mono ?_
  rintro e wx ⟨rfl, rfl⟩
  go_wp2_with fail
  refine (K2.out _).mono ?_
  rintro e wx ⟨rfl, rfl⟩
  go_wp2_with fail
  refine (SM.out _).mono ?_
  rintro e wx ⟨rfl, rfl⟩
  go_wp2
  go_ret
  exact ⟨rfl, HB.out⟩
set_option maxHeartbeats 1000000 in
theorem law_c6 (a b c : Nat) (p X Y Z : Int) (W : World) (hb : -1 ≤ X ∧ X ≤ 1) (hp : p = 4) (hX : X = 0 ∧ Y = 0 ∧ Z = 0)
    (C1 : Hid (∀ w, Calls Try.prog 14 #[.float .f64 a] w fun e w' => e = .returned (.int .i64 p) ∧ w = w'))
    (C2 : Hid (∀ w, Calls Try.prog 13 #[.float .f64 a] w fun e w' => e = .returned (.int .i64 p) ∧ w = w'))
    (C3 : Hid (∀ w, Calls Try.prog 16 #[.float .f64 a] w fun e w' => e = .returned (.int .i64 (0)) ∧ w = w'))
    (AB : Hid (∀ w, Calls Try.prog 15 #[.float .f64 a, .float .f64 b] w fun e w' => e = .returned (.int .i64 X) ∧ w = w'))
    (BC : Hid (∀ w, Calls Try.prog 15 #[.float .f64 b, .float .f64 c] w fun e w' => e = .returned (.int .i64 Y) ∧ w = w'))
    (AC : Hid (∀ w, Calls Try.prog 15 #[.float .f64 a, .float .f64 c] w fun e w' => e = .returned (.int .i64 Z) ∧ w = w'))
    (BA : Hid (∀ w, Calls Try.prog 15 #[.float .f64 b, .float .f64 a] w fun e w' => e = .returned (.int .i64 (-X)) ∧ w = w'))
    (PAB : Hid (∀ w, Calls Try.prog 17 #[.float .f64 a, .float .f64 b] w fun e w' => e = .returned (.int .i64 X) ∧ w = w'))
    (K1 : Hid (∀ w, Calls Try.prog 18 #[.float .f64 a] w fun e w' => e = .returned (.float .f64 (fclamp a)) ∧ w = w'))
    (K2 : Hid (∀ w, Calls Try.prog 12 #[.float .f64 a] w fun e w' => e = .returned (.float .f64 (fclamp a)) ∧ w = w'))
    (SM : Hid (∀ w, Calls Try.prog 9 #[.float .f64 (fclamp a), .float .f64 (fclamp a)] w fun e w' => e = .returned (.bool true) ∧ w = w')) :
    Calls Try.prog 4 #[.float .f64 a, .float .f64 b, .float .f64 c] W fun e w' => e = .returned (.bool true) ∧ Below W.heap.size W w' := by
  have f0 : decide (1 ≤ p) = true := by simp; omega
  have f1 : decide (p ≤ 3) = false := by simp; omega
  have f2 : (p == 0) = false := by rw [beq_eq_false_iff_ne]; omega
  have f3 : (p == 4) = true := by simp; omega
  have f4 : decide (0 < X) = false := by simp; omega
  have f5 : decide (0 < Y) = false := by simp; omega
  have f6 : decide (Z ≤ 0) = true := by simp; omega
  have f7 : (X != 0) = false := by simp; omega
  have f8 : (Y != 0) = false := by simp; omega
  have f9 : (Z == 0) = true := by simp; omega
  have e1 : (p == p) = true := by simp
  have e2 : (X == X) = true := by simp
  have e3 : ((-X) == (-X)) = true := by simp
  have e4 : IntKind.i64.wrap (-X) = -X := IntWalk.i64_in _ (by omega)
  clear hp hX hb
  go_enter Try.func4, Try.ntmps4
  go_wp2_with fail
  refine (awake_any W).mono ?_
  rintro e w1 ⟨rfl, hb1⟩
  have HB := Lib.hid hb1
  clear hb1
  go_wp2_with fail
  refine (C1.out _).mono ?_
  rintro e wx ⟨rfl, rfl⟩
  go_wp2_with fail
  refine (AB.out _).mono ?_
  rintro e wx ⟨rfl, rfl⟩
  go_wp2_with fail
  refine (BC.out _).mono ?_
  rintro e wx ⟨rfl, rfl⟩
  go_wp2_with fail
  refine (AC.out _).mono ?_
  rintro e wx ⟨rfl, rfl⟩
  go_wp2_with fail
  refine (C2.out _).mono ?_
  rintro e wx ⟨rfl, rfl⟩
  go_wp2_with fail
  refine (C3.out _).mono ?_
  rintro e wx ⟨rfl, rfl⟩
  go_wp2_with fail
  refine (PAB.out _).mono ?_
  rintro e wx ⟨rfl, rfl⟩
  go_wp2_with fail
  refine (BA.out _).mono ?_
  rintro e wx ⟨rfl, rfl⟩
  go_wp2_with fail
  refine (K1.out _).mono ?_
  rintro e wx ⟨rfl, rfl⟩
  go_wp2_with fail
  refine (K2.out _).mono ?_
  rintro e wx ⟨rfl, rfl⟩
  go_wp2_with fail
  refine (SM.out _).mono ?_
  rintro e wx ⟨rfl, rfl⟩
  go_wp2
  go_ret
  exact ⟨rfl, HB.out⟩
set_option maxHeartbeats 1000000 in
theorem law_d1 (a b c : Nat) (p X Y Z : Int) (W : World) (hb : -1 ≤ X ∧ X ≤ 1) (hp : 5 ≤ p) (hX : 0 < X)
    (C1 : Hid (∀ w, Calls Try.prog 14 #[.float .f64 a] w fun e w' => e = .returned (.int .i64 p) ∧ w = w'))
    (C2 : Hid (∀ w, Calls Try.prog 13 #[.float .f64 a] w fun e w' => e = .returned (.int .i64 p) ∧ w = w'))
    (C3 : Hid (∀ w, Calls Try.prog 16 #[.float .f64 a] w fun e w' => e = .returned (.int .i64 (1)) ∧ w = w'))
    (AB : Hid (∀ w, Calls Try.prog 15 #[.float .f64 a, .float .f64 b] w fun e w' => e = .returned (.int .i64 X) ∧ w = w'))
    (BC : Hid (∀ w, Calls Try.prog 15 #[.float .f64 b, .float .f64 c] w fun e w' => e = .returned (.int .i64 Y) ∧ w = w'))
    (AC : Hid (∀ w, Calls Try.prog 15 #[.float .f64 a, .float .f64 c] w fun e w' => e = .returned (.int .i64 Z) ∧ w = w'))
    (BA : Hid (∀ w, Calls Try.prog 15 #[.float .f64 b, .float .f64 a] w fun e w' => e = .returned (.int .i64 (-X)) ∧ w = w'))
    (PAB : Hid (∀ w, Calls Try.prog 17 #[.float .f64 a, .float .f64 b] w fun e w' => e = .returned (.int .i64 X) ∧ w = w'))
    (K1 : Hid (∀ w, Calls Try.prog 18 #[.float .f64 a] w fun e w' => e = .returned (.float .f64 (fclamp a)) ∧ w = w'))
    (K2 : Hid (∀ w, Calls Try.prog 12 #[.float .f64 a] w fun e w' => e = .returned (.float .f64 (fclamp a)) ∧ w = w'))
    (SM : Hid (∀ w, Calls Try.prog 9 #[.float .f64 (fclamp a), .float .f64 (fclamp a)] w fun e w' => e = .returned (.bool true) ∧ w = w')) :
    Calls Try.prog 4 #[.float .f64 a, .float .f64 b, .float .f64 c] W fun e w' => e = .returned (.bool true) ∧ Below W.heap.size W w' := by
  have f0 : decide (1 ≤ p) = true := by simp; omega
  have f1 : decide (p ≤ 3) = false := by simp; omega
  have f2 : (p == 0) = false := by rw [beq_eq_false_iff_ne]; omega
  have f3 : (p == 4) = false := by rw [beq_eq_false_iff_ne]; omega
  have f4 : decide (0 < X) = true := by simp; omega
  have f5 : (X != 0) = true := by simp; omega
  have e1 : (p == p) = true := by simp
  have e2 : (X == X) = true := by simp
  have e3 : ((-X) == (-X)) = true := by simp
  have e4 : IntKind.i64.wrap (-X) = -X := IntWalk.i64_in _ (by omega)
  clear hp hX hb
  go_enter Try.func4, Try.ntmps4
  go_wp2_with fail
  refine (awake_any W).mono ?_
  rintro e w1 ⟨rfl, hb1⟩
  have HB := Lib.hid hb1
  clear hb1
  go_wp2_with fail
  refine (C1.out _).mono ?_
  rintro e wx ⟨rfl, rfl⟩
  go_wp2_with fail
  refine (AB.out _).mono ?_
  rintro e wx ⟨rfl, rfl⟩
  go_wp2_with fail
  refine (BC.out _).mono ?_
  rintro e wx ⟨rfl, rfl⟩
  go_wp2_with fail
  refine (AC.out _).mono ?_
  rintro e wx ⟨rfl, rfl⟩
  go_wp2_with fail
  refine (C2.out _).mono ?_
  rintro e wx ⟨rfl, rfl⟩
  go_wp2_with fail
  refine (C3.out _).mono ?_
  rintro e wx ⟨rfl, rfl⟩
  go_wp2_with fail
  refine (PAB.out _).mono ?_
  rintro e wx ⟨rfl, rfl⟩
  go_wp2_with fail
  refine (BA.out _).mono ?_
  rintro e wx ⟨rfl, rfl⟩
  go_wp2_with fail
  refine (K1.out _).mono ?_
  rintro e wx ⟨rfl, rfl⟩
  go_wp2_with fail
  refine (K2.out _).mono ?_
  rintro e wx ⟨rfl, rfl⟩
  go_wp2_with fail
  refine (SM.out _).mono ?_
  rintro e wx ⟨rfl, rfl⟩
  go_wp2
  go_ret
  exact ⟨rfl, HB.out⟩
set_option maxHeartbeats 1000000 in
theorem law_d2 (a b c : Nat) (p X Y Z : Int) (W : World) (hb : -1 ≤ X ∧ X ≤ 1) (hp : 5 ≤ p) (hX : X < 0 ∧ 0 < Y)
    (C1 : Hid (∀ w, Calls Try.prog 14 #[.float .f64 a] w fun e w' => e = .returned (.int .i64 p) ∧ w = w'))
    (C2 : Hid (∀ w, Calls Try.prog 13 #[.float .f64 a] w fun e w' => e = .returned (.int .i64 p) ∧ w = w'))
    (C3 : Hid (∀ w, Calls Try.prog 16 #[.float .f64 a] w fun e w' => e = .returned (.int .i64 (1)) ∧ w = w'))
    (AB : Hid (∀ w, Calls Try.prog 15 #[.float .f64 a, .float .f64 b] w fun e w' => e = .returned (.int .i64 X) ∧ w = w'))
    (BC : Hid (∀ w, Calls Try.prog 15 #[.float .f64 b, .float .f64 c] w fun e w' => e = .returned (.int .i64 Y) ∧ w = w'))
    (AC : Hid (∀ w, Calls Try.prog 15 #[.float .f64 a, .float .f64 c] w fun e w' => e = .returned (.int .i64 Z) ∧ w = w'))
    (BA : Hid (∀ w, Calls Try.prog 15 #[.float .f64 b, .float .f64 a] w fun e w' => e = .returned (.int .i64 (-X)) ∧ w = w'))
    (PAB : Hid (∀ w, Calls Try.prog 17 #[.float .f64 a, .float .f64 b] w fun e w' => e = .returned (.int .i64 X) ∧ w = w'))
    (K1 : Hid (∀ w, Calls Try.prog 18 #[.float .f64 a] w fun e w' => e = .returned (.float .f64 (fclamp a)) ∧ w = w'))
    (K2 : Hid (∀ w, Calls Try.prog 12 #[.float .f64 a] w fun e w' => e = .returned (.float .f64 (fclamp a)) ∧ w = w'))
    (SM : Hid (∀ w, Calls Try.prog 9 #[.float .f64 (fclamp a), .float .f64 (fclamp a)] w fun e w' => e = .returned (.bool true) ∧ w = w')) :
    Calls Try.prog 4 #[.float .f64 a, .float .f64 b, .float .f64 c] W fun e w' => e = .returned (.bool true) ∧ Below W.heap.size W w' := by
  have f0 : decide (1 ≤ p) = true := by simp; omega
  have f1 : decide (p ≤ 3) = false := by simp; omega
  have f2 : (p == 0) = false := by rw [beq_eq_false_iff_ne]; omega
  have f3 : (p == 4) = false := by rw [beq_eq_false_iff_ne]; omega
  have f4 : decide (0 < X) = false := by simp; omega
  have f5 : decide (0 < Y) = true := by simp; omega
  have f6 : (X != 0) = true := by simp; omega
  have e1 : (p == p) = true := by simp
  have e2 : (X == X) = true := by simp
  have e3 : ((-X) == (-X)) = true := by simp
  have e4 : IntKind.i64.wrap (-X) = -X := IntWalk.i64_in _ (by omega)
  clear hp hX hb
  go_enter Try.func4, Try.ntmps4
  go_wp2_with fail
  refine (awake_any W).mono ?_
  rintro e w1 ⟨rfl, hb1⟩
  have HB := Lib.hid hb1
  clear hb1
  go_wp2_with fail
  refine (C1.out _).mono ?_
  rintro e wx ⟨rfl, rfl⟩
  go_wp2_with fail
  refine (AB.out _).mono ?_
  rintro e wx ⟨rfl, rfl⟩
  go_wp2_with fail
  refine (BC.out _).mono ?_
  rintro e wx ⟨rfl, rfl⟩
  go_wp2_with fail
  refine (AC.out _).mono ?_
  rintro e wx ⟨rfl, rfl⟩
  go_wp2_with fail
  refine (C2.out _).mono ?_
  rintro e wx ⟨rfl, rfl⟩
  go_wp2_with fail
  refine (C3.out _).mono ?_
  rintro e wx ⟨rfl, rfl⟩
  go_wp2_with fail
  refine (PAB.out _).mono ?_
  rintro e wx ⟨rfl, rfl⟩
  go_wp2_with fail
  refine (BA.out _).mono ?_
  rintro e wx ⟨rfl, rfl⟩
  go_wp2_with fail
  refine (K1.out _).mono ?_
  rintro e wx ⟨rfl, rfl⟩
  go_wp2_with fail
  refine (K2.out _).mono ?_
  rintro e wx ⟨rfl, rfl⟩
  go_wp2_with fail
  refine (SM.out _).mono ?_
  rintro e wx ⟨rfl, rfl⟩
  go_wp2
  go_ret
  exact ⟨rfl, HB.out⟩
set_option maxHeartbeats 1000000 in
theorem law_d3 (a b c : Nat) (p X Y Z : Int) (W : World) (hb : -1 ≤ X ∧ X ≤ 1) (hp : 5 ≤ p) (hX : X = 0 ∧ 0 < Y)
    (C1 : Hid (∀ w, Calls Try.prog 14 #[.float .f64 a] w fun e w' => e = .returned (.int .i64 p) ∧ w = w'))
    (C2 : Hid (∀ w, Calls Try.prog 13 #[.float .f64 a] w fun e w' => e = .returned (.int .i64 p) ∧ w = w'))
    (C3 : Hid (∀ w, Calls Try.prog 16 #[.float .f64 a] w fun e w' => e = .returned (.int .i64 (1)) ∧ w = w'))
    (AB : Hid (∀ w, Calls Try.prog 15 #[.float .f64 a, .float .f64 b] w fun e w' => e = .returned (.int .i64 X) ∧ w = w'))
    (BC : Hid (∀ w, Calls Try.prog 15 #[.float .f64 b, .float .f64 c] w fun e w' => e = .returned (.int .i64 Y) ∧ w = w'))
    (AC : Hid (∀ w, Calls Try.prog 15 #[.float .f64 a, .float .f64 c] w fun e w' => e = .returned (.int .i64 Z) ∧ w = w'))
    (BA : Hid (∀ w, Calls Try.prog 15 #[.float .f64 b, .float .f64 a] w fun e w' => e = .returned (.int .i64 (-X)) ∧ w = w'))
    (PAB : Hid (∀ w, Calls Try.prog 17 #[.float .f64 a, .float .f64 b] w fun e w' => e = .returned (.int .i64 X) ∧ w = w'))
    (K1 : Hid (∀ w, Calls Try.prog 18 #[.float .f64 a] w fun e w' => e = .returned (.float .f64 (fclamp a)) ∧ w = w'))
    (K2 : Hid (∀ w, Calls Try.prog 12 #[.float .f64 a] w fun e w' => e = .returned (.float .f64 (fclamp a)) ∧ w = w'))
    (SM : Hid (∀ w, Calls Try.prog 9 #[.float .f64 (fclamp a), .float .f64 (fclamp a)] w fun e w' => e = .returned (.bool true) ∧ w = w')) :
    Calls Try.prog 4 #[.float .f64 a, .float .f64 b, .float .f64 c] W fun e w' => e = .returned (.bool true) ∧ Below W.heap.size W w' := by
  have f0 : decide (1 ≤ p) = true := by simp; omega
  have f1 : decide (p ≤ 3) = false := by simp; omega
  have f2 : (p == 0) = false := by rw [beq_eq_false_iff_ne]; omega
  have f3 : (p == 4) = false := by rw [beq_eq_false_iff_ne]; omega
  have f4 : decide (0 < X) = false := by simp; omega
  have f5 : decide (0 < Y) = true := by simp; omega
  have f6 : (X != 0) = false := by simp; omega
  have f7 : (Y != 0) = true := by simp; omega
  have e1 : (p == p) = true := by simp
  have e2 : (X == X) = true := by simp
  have e3 : ((-X) == (-X)) = true := by simp
  have e4 : IntKind.i64.wrap (-X) = -X := IntWalk.i64_in _ (by omega)
  clear hp hX hb
  go_enter Try.func4, Try.ntmps4
  go_wp2_with fail
  refine (awake_any W).mono ?_
  rintro e w1 ⟨rfl, hb1⟩
  have HB := Lib.hid hb1
  clear hb1
  go_wp2_with fail
  refine (C1.out _).mono ?_
  rintro e wx ⟨rfl, rfl⟩
  go_wp2_with fail
  refine (AB.out _).mono ?_
  rintro e wx ⟨rfl, rfl⟩
  go_wp2_with fail
  refine (BC.out _).mono ?_
  rintro e wx ⟨rfl, rfl⟩
  go_wp2_with fail
  refine (AC.out _).mono ?_
  rintro e wx ⟨rfl, rfl⟩
  go_wp2_with fail
  refine (C2.out _).mono ?_
  rintro e wx ⟨rfl, rfl⟩
  go_wp2_with fail
  refine (C3.out _).mono ?_
  rintro e wx ⟨rfl, rfl⟩
  go_wp2_with fail
  refine (PAB.out _).mono ?_
  rintro e wx ⟨rfl, rfl⟩
  go_wp2_with fail
  refine (BA.out _).mono ?_
  rintro e wx ⟨rfl, rfl⟩
  go_wp2_with fail
  refine (K1.out _).mono ?_
  rintro e wx ⟨rfl, rfl⟩
  go_wp2_with fail
  refine (K2.out _).mono ?_
  rintro e wx ⟨rfl, rfl⟩
  go_wp2_with fail
  refine (SM.out _).mono ?_
  rintro e wx ⟨rfl, rfl⟩
  go_wp2
  go_ret
  exact ⟨rfl, HB.out⟩
set_option maxHeartbeats 1000000 in
theorem law_d4 (a b c : Nat) (p X Y Z : Int) (W : World) (hb : -1 ≤ X ∧ X ≤ 1) (hp : 5 ≤ p) (hX : X < 0 ∧ Y ≤ 0 ∧ Z ≤ 0)
    (C1 : Hid (∀ w, Calls Try.prog 14 #[.float .f64 a] w fun e w' => e = .returned (.int .i64 p) ∧ w = w'))
    (C2 : Hid (∀ w, Calls Try.prog 13 #[.float .f64 a] w fun e w' => e = .returned (.int .i64 p) ∧ w = w'))
    (C3 : Hid (∀ w, Calls Try.prog 16 #[.float .f64 a] w fun e w' => e = .returned (.int .i64 (1)) ∧ w = w'))
    (AB : Hid (∀ w, Calls Try.prog 15 #[.float .f64 a, .float .f64 b] w fun e w' => e = .returned (.int .i64 X) ∧ w = w'))
    (BC : Hid (∀ w, Calls Try.prog 15 #[.float .f64 b, .float .f64 c] w fun e w' => e = .returned (.int .i64 Y) ∧ w = w'))
    (AC : Hid (∀ w, Calls Try.prog 15 #[.float .f64 a, .float .f64 c] w fun e w' => e = .returned (.int .i64 Z) ∧ w = w'))
    (BA : Hid (∀ w, Calls Try.prog 15 #[.float .f64 b, .float .f64 a] w fun e w' => e = .returned (.int .i64 (-X)) ∧ w = w'))
    (PAB : Hid (∀ w, Calls Try.prog 17 #[.float .f64 a, .float .f64 b] w fun e w' => e = .returned (.int .i64 X) ∧ w = w'))
    (K1 : Hid (∀ w, Calls Try.prog 18 #[.float .f64 a] w fun e w' => e = .returned (.float .f64 (fclamp a)) ∧ w = w'))
    (K2 : Hid (∀ w, Calls Try.prog 12 #[.float .f64 a] w fun e w' => e = .returned (.float .f64 (fclamp a)) ∧ w = w'))
    (SM : Hid (∀ w, Calls Try.prog 9 #[.float .f64 (fclamp a), .float .f64 (fclamp a)] w fun e w' => e = .returned (.bool true) ∧ w = w')) :
    Calls Try.prog 4 #[.float .f64 a, .float .f64 b, .float .f64 c] W fun e w' => e = .returned (.bool true) ∧ Below W.heap.size W w' := by
  have f0 : decide (1 ≤ p) = true := by simp; omega
  have f1 : decide (p ≤ 3) = false := by simp; omega
  have f2 : (p == 0) = false := by rw [beq_eq_false_iff_ne]; omega
  have f3 : (p == 4) = false := by rw [beq_eq_false_iff_ne]; omega
  have f4 : decide (0 < X) = false := by simp; omega
  have f5 : decide (0 < Y) = false := by simp; omega
  have f6 : decide (Z ≤ 0) = true := by simp; omega
  have f7 : (X != 0) = true := by simp; omega
  have e1 : (p == p) = true := by simp
  have e2 : (X == X) = true := by simp
  have e3 : ((-X) == (-X)) = true := by simp
  have e4 : IntKind.i64.wrap (-X) = -X := IntWalk.i64_in _ (by omega)
  clear hp hX hb
  go_enter Try.func4, Try.ntmps4
  go_wp2_with fail
  refine (awake_any W).mono ?_
  rintro e w1 ⟨rfl, hb1⟩
  have HB := Lib.hid hb1
  clear hb1
  go_wp2_with fail
  refine (C1.out _).mono ?_
  rintro e wx ⟨rfl, rfl⟩
  go_wp2_with fail
  refine (AB.out _).mono ?_
  rintro e wx ⟨rfl, rfl⟩
  go_wp2_with fail
  refine (BC.out _).mono ?_
  rintro e wx ⟨rfl, rfl⟩
  go_wp2_with fail
  refine (AC.out _).mono ?_
  rintro e wx ⟨rfl, rfl⟩
  go_wp2_with fail
  refine (C2.out _).mono ?_
  rintro e wx ⟨rfl, rfl⟩
  go_wp2_with fail
  refine (C3.out _).mono ?_
  rintro e wx ⟨rfl, rfl⟩
  go_wp2_with fail
  refine (PAB.out _).mono ?_
  rintro e wx ⟨rfl, rfl⟩
  go_wp2_with fail
  refine (BA.out _).mono ?_
  rintro e wx ⟨rfl, rfl⟩
  go_wp2_with fail
  refine (K1.out _).mono ?_
  rintro e wx ⟨rfl, rfl⟩
  go_wp2_with fail
  refine (K2.out _).mono ?_
  rintro e wx ⟨rfl, rfl⟩
  go_wp2_with fail
  refine (SM.out _).mono ?_
  rintro e wx ⟨rfl, rfl⟩
  go_wp2
  go_ret
  exact ⟨rfl, HB.out⟩
set_option maxHeartbeats 1000000 in
theorem law_d5 (a b c : Nat) (p X Y Z : Int) (W : World) (hb : -1 ≤ X ∧ X ≤ 1) (hp : 5 ≤ p) (hX : X = 0 ∧ Y < 0 ∧ Z ≤ 0)
    (C1 : Hid (∀ w, Calls Try.prog 14 #[.float .f64 a] w fun e w' => e = .returned (.int .i64 p) ∧ w = w'))
    (C2 : Hid (∀ w, Calls Try.prog 13 #[.float .f64 a] w fun e w' => e = .returned (.int .i64 p) ∧ w = w'))
    (C3 : Hid (∀ w, Calls Try.prog 16 #[.float .f64 a] w fun e w' => e = .returned (.int .i64 (1)) ∧ w = w'))
    (AB : Hid (∀ w, Calls Try.prog 15 #[.float .f64 a, .float .f64 b] w fun e w' => e = .returned (.int .i64 X) ∧ w = w'))
    (BC : Hid (∀ w, Calls Try.prog 15 #[.float .f64 b, .float .f64 c] w fun e w' => e = .returned (.int .i64 Y) ∧ w = w'))
    (AC : Hid (∀ w, Calls Try.prog 15 #[.float .f64 a, .float .f64 c] w fun e w' => e = .returned (.int .i64 Z) ∧ w = w'))
    (BA : Hid (∀ w, Calls Try.prog 15 #[.float .f64 b, .float .f64 a] w fun e w' => e = .returned (.int .i64 (-X)) ∧ w = w'))
    (PAB : Hid (∀ w, Calls Try.prog 17 #[.float .f64 a, .float .f64 b] w fun e w' => e = .returned (.int .i64 X) ∧ w = w'))
    (K1 : Hid (∀ w, Calls Try.prog 18 #[.float .f64 a] w fun e w' => e = .returned (.float .f64 (fclamp a)) ∧ w = w'))
    (K2 : Hid (∀ w, Calls Try.prog 12 #[.float .f64 a] w fun e w' => e = .returned (.float .f64 (fclamp a)) ∧ w = w'))
    (SM : Hid (∀ w, Calls Try.prog 9 #[.float .f64 (fclamp a), .float .f64 (fclamp a)] w fun e w' => e = .returned (.bool true) ∧ w = w')) :
    Calls Try.prog 4 #[.float .f64 a, .float .f64 b, .float .f64 c] W fun e w' => e = .returned (.bool true) ∧ Below W.heap.size W w' := by
  have f0 : decide (1 ≤ p) = true := by simp; omega
  have f1 : decide (p ≤ 3) = false := by simp; omega
  have f2 : (p == 0) = false := by rw [beq_eq_false_iff_ne]; omega
  have f3 : (p == 4) = false := by rw [beq_eq_false_iff_ne]; omega
  have f4 : decide (0 < X) = false := by simp; omega
  have f5 : decide (0 < Y) = false := by simp; omega
  have f6 : decide (Z ≤ 0) = true := by simp; omega
  have f7 : (X != 0) = false := by simp; omega
  have f8 : (Y != 0) = true := by simp; omega
  have e1 : (p == p) = true := by simp
  have e2 : (X == X) = true := by simp
  have e3 : ((-X) == (-X)) = true := by simp
  have e4 : IntKind.i64.wrap (-X) = -X := IntWalk.i64_in _ (by omega)
  clear hp hX hb
  go_enter Try.func4, Try.ntmps4
  go_wp2_with fail
  refine (awake_any W).mono ?_
  rintro e w1 ⟨rfl, hb1⟩
  have HB := Lib.hid hb1
  clear hb1
  go_wp2_with fail
  refine (C1.out _).mono ?_
  rintro e wx ⟨rfl, rfl⟩
  go_wp2_with fail
  refine (AB.out _).mono ?_
  rintro e wx ⟨rfl, rfl⟩
  go_wp2_with fail
  refine (BC.out _).mono ?_
  rintro e wx ⟨rfl, rfl⟩
  go_wp2_with fail
  refine (AC.out _).mono ?_
  rintro e wx ⟨rfl, rfl⟩
  go_wp2_with fail
  refine (C2.out _).mono ?_
  rintro e wx ⟨rfl, rfl⟩
  go_wp2_with fail
  refine (C3.out _).mono ?_
  rintro e wx ⟨rfl, rfl⟩
  go_wp2_with fail
  refine (PAB.out _).mono ?_
  rintro e wx ⟨rfl, rfl⟩
  go_wp2_with fail
  refine (BA.out _).mono ?_
  rintro e wx ⟨rfl, rfl⟩
  go_wp2_with fail
  refine (K1.out _).mono ?_
  rintro e wx ⟨rfl, rfl⟩
  go_wp2_with fail
  refine (K2.out _).mono ?_
  rintro e wx ⟨rfl, rfl⟩
  go_wp2_with fail
  refine (SM.out _).mono ?_
  rintro e wx ⟨rfl, rfl⟩
  go_wp2
  go_ret
  exact ⟨rfl, HB.out⟩
set_option maxHeartbeats 1000000 in
theorem law_d6 (a b c : Nat) (p X Y Z : Int) (W : World) (hb : -1 ≤ X ∧ X ≤ 1) (hp : 5 ≤ p) (hX : X = 0 ∧ Y = 0 ∧ Z = 0)
    (C1 : Hid (∀ w, Calls Try.prog 14 #[.float .f64 a] w fun e w' => e = .returned (.int .i64 p) ∧ w = w'))
    (C2 : Hid (∀ w, Calls Try.prog 13 #[.float .f64 a] w fun e w' => e = .returned (.int .i64 p) ∧ w = w'))
    (C3 : Hid (∀ w, Calls Try.prog 16 #[.float .f64 a] w fun e w' => e = .returned (.int .i64 (1)) ∧ w = w'))
    (AB : Hid (∀ w, Calls Try.prog 15 #[.float .f64 a, .float .f64 b] w fun e w' => e = .returned (.int .i64 X) ∧ w = w'))
    (BC : Hid (∀ w, Calls Try.prog 15 #[.float .f64 b, .float .f64 c] w fun e w' => e = .returned (.int .i64 Y) ∧ w = w'))
    (AC : Hid (∀ w, Calls Try.prog 15 #[.float .f64 a, .float .f64 c] w fun e w' => e = .returned (.int .i64 Z) ∧ w = w'))
    (BA : Hid (∀ w, Calls Try.prog 15 #[.float .f64 b, .float .f64 a] w fun e w' => e = .returned (.int .i64 (-X)) ∧ w = w'))
    (PAB : Hid (∀ w, Calls Try.prog 17 #[.float .f64 a, .float .f64 b] w fun e w' => e = .returned (.int .i64 X) ∧ w = w'))
    (K1 : Hid (∀ w, Calls Try.prog 18 #[.float .f64 a] w fun e w' => e = .returned (.float .f64 (fclamp a)) ∧ w = w'))
    (K2 : Hid (∀ w, Calls Try.prog 12 #[.float .f64 a] w fun e w' => e = .returned (.float .f64 (fclamp a)) ∧ w = w'))
    (SM : Hid (∀ w, Calls Try.prog 9 #[.float .f64 (fclamp a), .float .f64 (fclamp a)] w fun e w' => e = .returned (.bool true) ∧ w = w')) :
    Calls Try.prog 4 #[.float .f64 a, .float .f64 b, .float .f64 c] W fun e w' => e = .returned (.bool true) ∧ Below W.heap.size W w' := by
  have f0 : decide (1 ≤ p) = true := by simp; omega
  have f1 : decide (p ≤ 3) = false := by simp; omega
  have f2 : (p == 0) = false := by rw [beq_eq_false_iff_ne]; omega
  have f3 : (p == 4) = false := by rw [beq_eq_false_iff_ne]; omega
  have f4 : decide (0 < X) = false := by simp; omega
  have f5 : decide (0 < Y) = false := by simp; omega
  have f6 : decide (Z ≤ 0) = true := by simp; omega
  have f7 : (X != 0) = false := by simp; omega
  have f8 : (Y != 0) = false := by simp; omega
  have f9 : (Z == 0) = true := by simp; omega
  have e1 : (p == p) = true := by simp
  have e2 : (X == X) = true := by simp
  have e3 : ((-X) == (-X)) = true := by simp
  have e4 : IntKind.i64.wrap (-X) = -X := IntWalk.i64_in _ (by omega)
  clear hp hX hb
  go_enter Try.func4, Try.ntmps4
  go_wp2_with fail
  refine (awake_any W).mono ?_
  rintro e w1 ⟨rfl, hb1⟩
  have HB := Lib.hid hb1
  clear hb1
  go_wp2_with fail
  refine (C1.out _).mono ?_
  rintro e wx ⟨rfl, rfl⟩
  go_wp2_with fail
  refine (AB.out _).mono ?_
  rintro e wx ⟨rfl, rfl⟩
  go_wp2_with fail
  refine (BC.out _).mono ?_
  rintro e wx ⟨rfl, rfl⟩
  go_wp2_with fail
  refine (AC.out _).mono ?_
  rintro e wx ⟨rfl, rfl⟩
  go_wp2_with fail
  refine (C2.out _).mono ?_
  rintro e wx ⟨rfl, rfl⟩
  go_wp2_with fail
  refine (C3.out _).mono ?_
  rintro e wx ⟨rfl, rfl⟩
  go_wp2_with fail
  refine (PAB.out _).mono ?_
  rintro e wx ⟨rfl, rfl⟩
  go_wp2_with fail
  refine (BA.out _).mono ?_
  rintro e wx ⟨rfl, rfl⟩
  go_wp2_with fail
  refine (K1.out _).mono ?_
  rintro e wx ⟨rfl, rfl⟩
  go_wp2_with fail
  refine (K2.out _).mono ?_
  rintro e wx ⟨rfl, rfl⟩
  go_wp2_with fail
  refine (SM.out _).mono ?_
  rintro e wx ⟨rfl, rfl⟩
  go_wp2
  go_ret
  exact ⟨rfl, HB.out⟩
theorem order_law (a b c : Nat) (W : World) (ha : a < 18446744073709551616) (hb : b < 18446744073709551616) (hc : c < 18446744073709551616) :
    Calls Try.prog 4 #[.float .f64 a, .float .f64 b, .float .f64 c] W fun e w' => e = .returned (.bool true) ∧ Below W.heap.size W w' := by
  have C1 := Lib.hid (fun w => class_page a w ha)
  have C2 := Lib.hid (fun w => class_any a w ha)
  have C3 := Lib.hid (fun w => sign_any a w ha)
  have AB := Lib.hid (fun w => compare_any a b w ha hb)
  have BC := Lib.hid (fun w => compare_any b c w hb hc)
  have AC := Lib.hid (fun w => compare_any a c w ha hc)
  have BA := fun w => compare_any b a w hb ha
  rw [fcmp_neg a b] at BA
  have BA := Lib.hid BA
  have PAB := Lib.hid (fun w => compare_page a b w ha hb)
  have K1 := Lib.hid (fun w => clamp_any a w)
  have K2 := Lib.hid (fun w => clamp_page a w)
  have SM := Lib.hid (fun w => same_self (fclamp a) w (clamp_bd a ha))
  have hbd : -1 ≤ fcmp a b ∧ fcmp a b ≤ 1 := by unfold fcmp; (repeat' split) <;> omega
  have t1 := fcmp_trans a b c
  have t2 := fcmp_eq a b c
  have hv := cls_vals a
  obtain ⟨p, hp⟩ : ∃ p, cls a = p := ⟨_, rfl⟩
  obtain ⟨X, hX⟩ : ∃ X, fcmp a b = X := ⟨_, rfl⟩
  obtain ⟨Y, hY⟩ : ∃ Y, fcmp b c = Y := ⟨_, rfl⟩
  obtain ⟨Z, hZ⟩ : ∃ Z, fcmp a c = Z := ⟨_, rfl⟩
  rw [hp] at C1 C2 C3 hv
  rw [hX] at AB BA PAB hbd t1 t2
  rw [hY] at BC t1 t2
  rw [hZ] at AC t1 t2
  clear hp hX hY hZ
  have hx : 0 < X ∨ (X < 0 ∧ 0 < Y) ∨ (X = 0 ∧ 0 < Y) ∨ (X < 0 ∧ Y ≤ 0 ∧ Z ≤ 0) ∨ (X = 0 ∧ Y < 0 ∧ Z ≤ 0) ∨ (X = 0 ∧ Y = 0 ∧ Z = 0) := by
    rcases Int.lt_trichotomy X 0 with h | h | h
    · by_cases h2 : 0 < Y
      · exact .inr (.inl ⟨h, h2⟩)
      · exact .inr (.inr (.inr (.inl ⟨h, by omega, t1 (by omega) (by omega)⟩)))
    · rcases Int.lt_trichotomy Y 0 with h2 | h2 | h2
      · exact .inr (.inr (.inr (.inr (.inl ⟨h, h2, t1 (by omega) (by omega)⟩))))
      · exact .inr (.inr (.inr (.inr (.inr ⟨h, h2, t2 h h2⟩))))
      · exact .inr (.inr (.inl ⟨h, h2⟩))
    · exact .inl h
  have hpp : (1 ≤ p ∧ p ≤ 3) ∨ p = 0 ∨ p = 4 ∨ 5 ≤ p := by omega
  clear hv t1 t2
  rcases hpp with hpp | hpp | hpp | hpp
  · rw [show sgn p = -1 from by unfold sgn; (repeat' split) <;> omega] at C3
    rcases hx with hx | hx | hx | hx | hx | hx
    · exact law_a1 a b c p X Y Z W hbd hpp hx C1 C2 C3 AB BC AC BA PAB K1 K2 SM
    · exact law_a2 a b c p X Y Z W hbd hpp hx C1 C2 C3 AB BC AC BA PAB K1 K2 SM
    · exact law_a3 a b c p X Y Z W hbd hpp hx C1 C2 C3 AB BC AC BA PAB K1 K2 SM
    · exact law_a4 a b c p X Y Z W hbd hpp hx C1 C2 C3 AB BC AC BA PAB K1 K2 SM
    · exact law_a5 a b c p X Y Z W hbd hpp hx C1 C2 C3 AB BC AC BA PAB K1 K2 SM
    · exact law_a6 a b c p X Y Z W hbd hpp hx C1 C2 C3 AB BC AC BA PAB K1 K2 SM
  · rw [show sgn p = 0 from by unfold sgn; (repeat' split) <;> omega] at C3
    rcases hx with hx | hx | hx | hx | hx | hx
    · exact law_b1 a b c p X Y Z W hbd hpp hx C1 C2 C3 AB BC AC BA PAB K1 K2 SM
    · exact law_b2 a b c p X Y Z W hbd hpp hx C1 C2 C3 AB BC AC BA PAB K1 K2 SM
    · exact law_b3 a b c p X Y Z W hbd hpp hx C1 C2 C3 AB BC AC BA PAB K1 K2 SM
    · exact law_b4 a b c p X Y Z W hbd hpp hx C1 C2 C3 AB BC AC BA PAB K1 K2 SM
    · exact law_b5 a b c p X Y Z W hbd hpp hx C1 C2 C3 AB BC AC BA PAB K1 K2 SM
    · exact law_b6 a b c p X Y Z W hbd hpp hx C1 C2 C3 AB BC AC BA PAB K1 K2 SM
  · rw [show sgn p = 0 from by unfold sgn; (repeat' split) <;> omega] at C3
    rcases hx with hx | hx | hx | hx | hx | hx
    · exact law_c1 a b c p X Y Z W hbd hpp hx C1 C2 C3 AB BC AC BA PAB K1 K2 SM
    · exact law_c2 a b c p X Y Z W hbd hpp hx C1 C2 C3 AB BC AC BA PAB K1 K2 SM
    · exact law_c3 a b c p X Y Z W hbd hpp hx C1 C2 C3 AB BC AC BA PAB K1 K2 SM
    · exact law_c4 a b c p X Y Z W hbd hpp hx C1 C2 C3 AB BC AC BA PAB K1 K2 SM
    · exact law_c5 a b c p X Y Z W hbd hpp hx C1 C2 C3 AB BC AC BA PAB K1 K2 SM
    · exact law_c6 a b c p X Y Z W hbd hpp hx C1 C2 C3 AB BC AC BA PAB K1 K2 SM
  · rw [show sgn p = 1 from by unfold sgn; (repeat' split) <;> omega] at C3
    rcases hx with hx | hx | hx | hx | hx | hx
    · exact law_d1 a b c p X Y Z W hbd hpp hx C1 C2 C3 AB BC AC BA PAB K1 K2 SM
    · exact law_d2 a b c p X Y Z W hbd hpp hx C1 C2 C3 AB BC AC BA PAB K1 K2 SM
    · exact law_d3 a b c p X Y Z W hbd hpp hx C1 C2 C3 AB BC AC BA PAB K1 K2 SM
    · exact law_d4 a b c p X Y Z W hbd hpp hx C1 C2 C3 AB BC AC BA PAB K1 K2 SM
    · exact law_d5 a b c p X Y Z W hbd hpp hx C1 C2 C3 AB BC AC BA PAB K1 K2 SM
    · exact law_d6 a b c p X Y Z W hbd hpp hx C1 C2 C3 AB BC AC BA PAB K1 K2 SM
end Go.Proofs.Ytgjkffennlilhaa
