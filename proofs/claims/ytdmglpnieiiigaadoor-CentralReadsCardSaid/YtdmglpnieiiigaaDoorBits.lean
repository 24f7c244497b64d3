/- Bitwise operations on natural numbers that fit their kinds. -/
import Derived.WalkKit
import Derived.Laws.BitsAllLaws
namespace Go

theorem wrap_nat_i64 (n : Nat) (h : n < 9223372036854775808) : IntKind.i64.wrap (n : Int) = n := IntWalk.i64_in _ (by omega)
theorem bits_or_i64 (a b : Nat) (ha : a < 9223372036854775808) (hb : b < 9223372036854775808) : bits .or .i64 (a : Int) (b : Int) = ((a ||| b : Nat) : Int) := by
  have h : a ||| b < 2 ^ 63 := Nat.or_lt_two_pow (by omega) (by omega)
  show IntKind.i64.wrap ((BitVec.ofInt 64 (a : Int) ||| BitVec.ofInt 64 (b : Int)).toNat : Int) = _
  rw [BitVec.toNat_or, ofInt_u64 a (by omega), ofInt_u64 b (by omega), wrap_nat_i64 _ (by omega)]
theorem bits_and_i64 (a b : Nat) (ha : a < 9223372036854775808) (hb : b < 9223372036854775808) : bits .and .i64 (a : Int) (b : Int) = ((a &&& b : Nat) : Int) := by
  have h : a &&& b < 2 ^ 63 := Nat.and_lt_two_pow _ (by omega)
  show IntKind.i64.wrap ((BitVec.ofInt 64 (a : Int) &&& BitVec.ofInt 64 (b : Int)).toNat : Int) = _
  rw [BitVec.toNat_and, ofInt_u64 a (by omega), ofInt_u64 b (by omega), wrap_nat_i64 _ (by omega)]
/-- 'a | b', b below 2^n, a a multiple of 2^n: their sum. -/
theorem bits_or_sum (n : Nat) (x a b : Int) (hx : x = a * ((2 ^ n : Nat) : Int)) (ha : 0 ≤ a) (hb : 0 ≤ b) (hn : b < ((2 ^ n : Nat) : Int)) (hl : x + b < 9223372036854775808) : bits .or .i64 x b = x + b := by
  subst hx
  obtain ⟨a', rfl⟩ := Int.eq_ofNat_of_zero_le ha
  obtain ⟨b', rfl⟩ := Int.eq_ofNat_of_zero_le hb
  have e : ((a' : Int) * ((2 ^ n : Nat) : Int)) = ((2 ^ n * a' : Nat) : Int) := by rw [Int.natCast_mul, Int.mul_comm]
  rw [e] at hl ⊢
  have hn' : b' < 2 ^ n := by omega
  generalize hp : 2 ^ n * a' = p at *
  rw [bits_or_i64 _ _ (by omega) (by omega), ← hp, ← Nat.two_pow_add_eq_or_of_lt hn']
  omega
end Go
