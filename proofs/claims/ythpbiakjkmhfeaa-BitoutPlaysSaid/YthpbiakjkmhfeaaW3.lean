/- Bits the other way round. -/
import Derived.Test.YthpbiakjkmhfeaaW2
namespace Go.Proofs.Ythpbiakjkmhfeaa
open Go.RowKit

/-- The lowest k bits the other way round. -/
def revN (v : Nat) : Nat → Nat
  | 0 => 0
  | k + 1 => revN v k * 2 + v / 2 ^ k % 2
theorem revN_lt (v k : Nat) : revN v k < 2 ^ k := by
  induction k with
  | zero => simp [revN]
  | succ k ih =>
    rw [revN, Nat.pow_succ]
    omega
theorem revN_bit (v k j : Nat) : (revN v k).testBit j = (decide (j < k) && v.testBit (k - 1 - j)) := by
  induction k generalizing j with
  | zero => simp [revN]
  | succ k ih =>
    cases j with
    | zero =>
      rw [revN, Nat.testBit_zero, show (revN v k * 2 + v / 2 ^ k % 2) % 2 = v / 2 ^ k % 2 by omega]
      simp [Nat.testBit_eq_decide_div_mod_eq]
    | succ j =>
      rw [revN, Nat.testBit_succ, show (revN v k * 2 + v / 2 ^ k % 2) / 2 = revN v k by omega, ih]
      by_cases h : j < k
      · simp [h, show k - 1 - j = k - (j + 1) by omega]
      · simp [h]
theorem revN_half (v k d : Nat) : revN v (k + d) / 2 ^ d = revN v k := by
  induction d with
  | zero => simp
  | succ d ih =>
    rw [← Nat.add_assoc, revN, Nat.pow_succ, Nat.mul_comm (2 ^ d), ← Nat.div_div_eq_div_mul, show (revN v (k + d) * 2 + v / 2 ^ (k + d) % 2) / 2 = revN v (k + d) by omega, ih]
theorem revN_twice (v k : Nat) : revN (revN v k) k = v % 2 ^ k := by
  apply Nat.eq_of_testBit_eq
  intro i
  rw [revN_bit, revN_bit, Nat.testBit_mod_two_pow]
  by_cases h : i < k
  · simp [h, show k - 1 - i < k by omega, show k - 1 - (k - 1 - i) = i by omega]
  · simp [h]
def swap (m s x : Nat) : Nat := ((x / 2 ^ s) &&& m) ||| ((x &&& m) * 2 ^ s % 2 ^ 32)
def pi (s i : Nat) : Nat := if i / s % 2 = 0 then i + s else i - s
theorem swap_lt (m s x : Nat) (hm : m < 2 ^ 32) : swap m s x < 2 ^ 32 := Nat.or_lt_two_pow (Nat.and_lt_two_pow _ hm) (Nat.mod_lt _ (Nat.pow_pos (by omega)))
theorem swap_bit (m s x i : Nat) (hi : i < 32) (h1 : ∀ j, j < 32 → m.testBit j = decide (j / s % 2 = 0)) (h2 : ∀ j, j < 32 → s ≤ j → m.testBit (j - s) = decide (¬ j / s % 2 = 0)) (h3 : ∀ j, j < 32 → ¬ s ≤ j → j / s % 2 = 0) : (swap m s x).testBit i = x.testBit (pi s i) := by
  unfold swap pi
  rw [Nat.testBit_or, Nat.testBit_and, Nat.testBit_div_two_pow, Nat.testBit_mod_two_pow, Nat.testBit_mul_two_pow, Nat.testBit_and, h1 i hi]
  by_cases hs : s ≤ i
  · rw [h2 i hi hs]
    by_cases hp : i / s % 2 = 0
    · simp [hi, hs, hp, Nat.add_comm]
    · simp [hi, hs, hp]
  · simp [hi, hs, h3 i hi hs, Nat.add_comm]
theorem swap_int (m s x : Nat) (p : Int) (hp : p = ((2 ^ s : Nat) : Int)) (hm : m < 2 ^ 32) (hx : x < 2 ^ 32) : bits .or .u32 (bits .and .u32 ((x : Int) / p) (m : Nat)) (bits .and .u32 (x : Int) (m : Nat) * p % 4294967296) = ((swap m s x : Nat) : Int) := by
  subst hp
  have h1 : x / 2 ^ s < 2 ^ 32 := Nat.lt_of_le_of_lt (Nat.div_le_self _ _) hx
  have h2 : (x / 2 ^ s) &&& m < 2 ^ 32 := Nat.and_lt_two_pow _ hm
  have h3 : x &&& m < 2 ^ 32 := Nat.and_lt_two_pow _ hm
  rw [show ((x : Int) / ((2 ^ s : Nat) : Int)) = ((x / 2 ^ s : Nat) : Int) from rfl, u32_and_nat _ _ (by omega) (by omega), u32_and_nat _ _ (by omega) (by omega)]
  rw [show (((x &&& m : Nat) : Int) * ((2 ^ s : Nat) : Int) % 4294967296) = (((x &&& m) * 2 ^ s % 2 ^ 32 : Nat) : Int) by rw [← Int.natCast_mul]; rfl, u32_or_nat _ _ (by omega) (by have := Nat.mod_lt ((x &&& m) * 2 ^ s) (show 0 < 2 ^ 32 by omega); omega)]
  rfl
theorem halves_int (x : Nat) (hx : x < 2 ^ 32) : bits .or .u32 ((x : Int) / 65536) ((x : Int) * 65536 % 4294967296) = ((swap 65535 16 x : Nat) : Int) := by
  have h1 : (x : Int) / 65536 = bits .and .u32 ((x : Int) / ((2 ^ 16 : Nat) : Int)) (65535 : Nat) := by
    rw [show ((x : Int) / ((2 ^ 16 : Nat) : Int)) = ((x / 2 ^ 16 : Nat) : Int) from rfl, u32_and_nat _ _ (by omega) (by omega), show (65535 : Nat) = 2 ^ 16 - 1 from rfl, Nat.and_two_pow_sub_one_eq_mod]
    omega
  have h2 : (x : Int) * 65536 % 4294967296 = bits .and .u32 (x : Int) (65535 : Nat) * ((2 ^ 16 : Nat) : Int) % 4294967296 := by
    rw [u32_and_nat _ _ (by omega) (by omega), show (65535 : Nat) = 2 ^ 16 - 1 from rfl, Nat.and_two_pow_sub_one_eq_mod]
    omega
  rw [h1, h2, swap_int 65535 16 x _ rfl (by omega) hx]
def rev32 (x : Nat) : Nat := swap 65535 16 (swap 16711935 8 (swap 252645135 4 (swap 858993459 2 (swap 1431655765 1 x))))
theorem rev32_eq (x : Nat) : rev32 x = revN x 32 := by
  apply Nat.eq_of_testBit_eq
  intro i
  by_cases hi : i < 32
  · have p1 : ∀ i, i < 32 → pi 16 i < 32 := by decide
    have p2 : ∀ i, i < 32 → pi 8 (pi 16 i) < 32 := by decide
    have p3 : ∀ i, i < 32 → pi 4 (pi 8 (pi 16 i)) < 32 := by decide
    have p4 : ∀ i, i < 32 → pi 2 (pi 4 (pi 8 (pi 16 i))) < 32 := by decide
    have p5 : ∀ i, i < 32 → pi 1 (pi 2 (pi 4 (pi 8 (pi 16 i)))) = 31 - i := by decide
    unfold rev32
    rw [swap_bit _ _ _ _ hi (by decide) (by decide) (by decide), swap_bit _ _ _ _ (p1 i hi) (by decide) (by decide) (by decide), swap_bit _ _ _ _ (p2 i hi) (by decide) (by decide) (by decide), swap_bit _ _ _ _ (p3 i hi) (by decide) (by decide) (by decide), swap_bit _ _ _ _ (p4 i hi) (by decide) (by decide) (by decide), p5 i hi, revN_bit]
    simp [hi]
  · have h1 : rev32 x < 2 ^ 32 := swap_lt _ _ _ (by omega)
    have h2 := revN_lt x 32
    rw [Nat.testBit_lt_two_pow (Nat.lt_of_lt_of_le h1 (Nat.pow_le_pow_right (by omega) (by omega))), Nat.testBit_lt_two_pow (Nat.lt_of_lt_of_le h2 (Nat.pow_le_pow_right (by omega) (by omega)))]
theorem rb_any (x : Nat) (w : World) (hx : x < 2 ^ 32) : Calls Try.prog 29 #[.int .u32 x] w fun e w' => e = .returned (.int .u32 (swap 65535 16 (swap 16711935 8 x) : Nat)) ∧ w = w' := by
  have HX := Lib.hid hx
  clear hx
  go_enter Try.func29, Try.ntmps29
  go_wp2
  go_ret
  have h1 := swap_int 16711935 8 x 256 rfl (by omega) HX.out
  have h2 := halves_int (swap 16711935 8 x) (swap_lt _ _ _ (by omega))
  rw [← h2, ← h1]
  exact ⟨rfl, rfl⟩
theorem rv_any (x : Nat) (w : World) (hx : x < 2 ^ 32) : Calls Try.prog 27 #[.int .u32 x] w fun e w' => e = .returned (.int .u32 (revN x 32 : Nat)) ∧ w = w' := by
  have HX := Lib.hid hx
  clear hx
  go_enter Try.func27, Try.ntmps27
  go_wp2_with fail
  have h1 := swap_int 1431655765 1 x 2 rfl (by omega) HX.out
  have h2 := swap_int 858993459 2 (swap 1431655765 1 x) 4 rfl (by omega) (swap_lt _ _ _ (by omega))
  have h3 := swap_int 252645135 4 (swap 858993459 2 (swap 1431655765 1 x)) 16 rfl (by omega) (swap_lt _ _ _ (by omega))
  rw [← h1] at h2
  rw [← h2] at h3
  have h4 := rb_any (swap 252645135 4 (swap 858993459 2 (swap 1431655765 1 x))) w (swap_lt _ _ _ (by omega))
  rw [show swap 65535 16 (swap 16711935 8 (swap 252645135 4 (swap 858993459 2 (swap 1431655765 1 x)))) = revN x 32 from rev32_eq x, ← h3] at h4
  refine h4.mono ?_
  rintro e w1 ⟨rfl, rfl⟩
  clear h1 h2 h3 h4
  go_wp2
  go_ret
  exact ⟨rfl, rfl⟩
end Go.Proofs.Ythpbiakjkmhfeaa
