/- Little-endian integers: fits, get, put, append. -/
import Derived.Test.YtjndcehmlegacaaW1
namespace Go.Proofs.Ytjndcehmlegacaa
open Go.RowKit

theorem or_oct (bs : List UInt8) (j : Nat) (hj : j < 8) (hl : j < bs.length) :
    bits .or .u64 (num (bs.take j) : Nat) (IntKind.u64.wrap (((bs.getD j 0).toNat : Int) * 2 ^ (8 * j))) = ((num (bs.take (j + 1)) : Nat) : Int) := by
  have h1 := num_lt (bs.take j)
  have h2 := (bs.getD j 0).toNat_lt
  rw [List.length_take, Nat.min_eq_left (by omega), show (256 : Nat) ^ j = 2 ^ (8 * j) by rw [Nat.pow_mul]] at h1
  have e1 : num (bs.take (j + 1)) = num (bs.take j) + 2 ^ (8 * j) * (bs.getD j 0).toNat := by
    rw [List.take_succ_eq_append_getElem hl, num_append, List.length_take, Nat.min_eq_left (by omega), show (256 : Nat) ^ j = 2 ^ (8 * j) by rw [Nat.pow_mul], List.getD_eq_getElem?_getD, List.getElem?_eq_getElem hl]
    simp [num]
  rw [e1]
  generalize num (bs.take j) = a at *
  generalize (bs.getD j 0).toNat = q at *
  have e2 : ((q : Int) * 2 ^ (8 * j)) = ((2 ^ (8 * j) * q : Nat) : Int) := by
    rw [Int.natCast_mul, Int.mul_comm]
    simp
  have h3 : 2 ^ (8 * j) * q < 2 ^ 64 := by
    have ha : 2 ^ (8 * j) * q < 2 ^ (8 * j) * 2 ^ 8 := Nat.mul_lt_mul_of_pos_left (by omega) (Nat.two_pow_pos _)
    have hb : 2 ^ (8 * j) * 2 ^ 8 ≤ 2 ^ 64 := by rw [← Nat.pow_add]; exact Nat.pow_le_pow_right (by omega) (by omega)
    omega
  have h4 : a < 2 ^ 64 := by
    have : 2 ^ (8 * j) ≤ 2 ^ 64 := Nat.pow_le_pow_right (by omega) (by omega)
    omega
  rw [e2, IntWalk.u64_in _ (by omega), u64_or_nat _ _ (by omega) (by omega), Nat.or_comm, ← Nat.two_pow_add_eq_or_of_lt h1, Nat.add_comm]
theorem fits_wrong (v : Nat) (k : Int) (w : World) (hr : rightW k = false) : Calls Try.prog 10 #[.int .u64 v, .int .i64 k] w fun e w' => e = .returned (.bool false) ∧ w = w' := by
  have HR := Lib.hid hr
  clear hr
  go_enter Try.func10, Try.ntmps10
  go_wp2_with fail
  refine (right_any _ _).mono ?_
  rw [HR.out]
  rintro e w1 ⟨rfl, rfl⟩
  go_wp2
  go_ret
  exact ⟨rfl, rfl⟩
theorem fits_right (v k : Nat) (w : World) (h1 : 1 ≤ k) (h2 : k ≤ 8) (hv : v < 18446744073709551616) : Calls Try.prog 10 #[.int .u64 v, .int .i64 k] w fun e w' => e = .returned (.bool (decide (v < 256 ^ k))) ∧ w = w' := by
  have HR : Hid (rightW k = true) := Lib.hid (by unfold rightW; simp; omega)
  by_cases h8 : k = 8
  · rw [show decide (v < 256 ^ k) = true from by rw [h8]; simp; omega]
    have d8 : ((k : Int) == 8) = true := by simp; omega
    clear h8
    go_enter Try.func10, Try.ntmps10
    go_wp2_with fail
    refine (right_any _ _).mono ?_
    rw [HR.out]
    rintro e w1 ⟨rfl, rfl⟩
    go_wp2
    go_ret
    exact ⟨rfl, rfl⟩
  · have h7 : k < 8 := by omega
    obtain ⟨r, hr⟩ : ∃ r, decide (v < 256 ^ k) = r := ⟨_, rfl⟩
    rw [hr]
    have hz : ((v : Int) / 2 ^ (8 * k) == 0) = r := by
      have hp : 0 < 256 ^ k := Nat.pow_pos (by omega)
      have e : (v : Int) / 2 ^ (8 * k) = ((v / 256 ^ k : Nat) : Int) := by
        rw [show (256 : Nat) ^ k = 2 ^ (8 * k) by rw [Nat.pow_mul]]
        simp
      have e2 : ((v / 256 ^ k : Nat) : Int) = 0 ↔ v < 256 ^ k := by rw [Int.natCast_eq_zero, Nat.div_eq_zero_iff_lt hp]
      rw [e, ← hr, Bool.eq_iff_iff, beq_iff_eq, decide_eq_true_eq]
      exact e2
    have d8 : ((k : Int) == 8) = false := by simp; omega
    have HZ := Lib.hid hz
    clear hz hr h8
    go_enter Try.func10, Try.ntmps10
    go_wp2_with fail
    refine (right_any _ _).mono ?_
    rw [HR.out]
    rintro e w1 ⟨rfl, rfl⟩
    have hz := HZ.out
    go_wp2
    go_ret
    exact ⟨rfl, rfl⟩
theorem get_no (A : Option Addr) (n c : Nat) (at' k : Int) (w : World) (hn : n ≤ 9223372036854775807) (h0 : -9223372036854775808 ≤ at') (h1 : at' ≤ 9223372036854775807) (hx : existsB n at' k = false) :
    Calls Try.prog 8 #[.slice A n c, .int .i64 at', .int .i64 k] w fun e w' => e = .returned (.tuple #[.int .u64 0, .bool false]) ∧ w = w' := by
  have HX := Lib.hid hx
  clear hx
  go_enter Try.func8, Try.ntmps8
  go_wp2_with fail
  refine (exists_any _ _ _ _ _ _ hn h0 h1).mono ?_
  rw [HX.out]
  rintro e w1 ⟨rfl, rfl⟩
  go_wp2
  go_ret2
  exact ⟨rfl, rfl⟩
set_option maxHeartbeats 1000000 in
theorem get_yes (A : Option Addr) (n c : Nat) (bs : List UInt8) (S : Nat → Prop) (p k : Nat) (w : World) (hB : Bs w S A n bs) (hn : n ≤ 140737488355328) (h1 : 1 ≤ k) (h2 : k ≤ 8) (h3 : p + k ≤ n) :
    Calls Try.prog 8 #[.slice A n c, .int .i64 p, .int .i64 k] w fun e w' => e = .returned (.tuple #[.int .u64 (num ((bs.drop p).take k) : Nat), .bool true]) ∧ w = w' := by
  have HB := Lib.hid hB
  have HX : Hid (existsB n p k = true) := Lib.hid (by unfold existsB; simp; omega)
  clear hB
  go_enter Try.func8, Try.ntmps8
  go_wp2_with fail
  refine (exists_any _ _ _ _ _ _ (by omega) (by omega) (by omega)).mono ?_
  rw [HX.out]
  rintro e w1 ⟨rfl, rfl⟩
  go_wp2
  go_loop [8, 9, 16] (fun v _ i => ∃ j : Nat, j ≤ k ∧ i = .int .i64 j ∧ v = .int .u64 (num ((bs.drop p).take j) : Nat)) (fun _ _ i => k - (intOf i).toNat)
  case atStart => exact ⟨0, Nat.zero_le _, rfl, rfl⟩
  case round =>
    obtain ⟨j, hj, rfl, rfl⟩ := hrel
    by_cases hlt : j < k
    · obtain ⟨b, off, rfl, _, _, hc⟩ := HB.out.at_ (i := p + j) (by omega)
      have hcb := byte_bd (bs.getD (p + j) 0)
      have hor := or_oct (bs.drop p) j (by omega) (by have := HB.out.len; simp; omega)
      rw [show (bs.drop p).getD j 0 = bs.getD (p + j) 0 by simp [List.getD_eq_getElem?_getD]] at hor
      have HOR := Lib.hid hor
      clear hor
      generalize bs.getD (p + j) 0 = q at *
      have k0 : (0 : Int) ≤ (p : Int) + j := by omega
      have k1 : (p : Int) + j < (n : Int) := by omega
      go_wp2
      exact ⟨⟨j + 1, by omega, by go_num, by rw [HOR.out]⟩, by simp [intOf]; omega⟩
    · obtain rfl : j = k := by omega
      go_wp2
      go_ret2
      exact ⟨rfl, rfl⟩
end Go.Proofs.Ytjndcehmlegacaa
