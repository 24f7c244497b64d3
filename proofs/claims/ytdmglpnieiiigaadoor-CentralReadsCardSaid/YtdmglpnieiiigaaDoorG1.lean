/- Octets: exists, Get; the page's Number. -/
import Derived.Test.YtdmglpnieiiigaaDoorF1
import Derived.IntWalk
import Derived.Defers
import Derived.Recover
namespace Go.Proofs.YtdmglpnieiiigaaDoor
open Go.RowKit

def existsB (n : Nat) (at' k : Int) : Bool := decide (1 ≤ k ∧ k ≤ 8 ∧ 0 ≤ at' ∧ at' ≤ n - k)
theorem exists_any (A : Option Addr) (n c : Nat) (at' k : Int) (w : World) (hn : n ≤ 9223372036854775807) (h0 : -9223372036854775808 ≤ at') (h1 : at' ≤ 9223372036854775807) :
    Calls Tryd.prog 63 #[.slice A n c, .int .i64 at', .int .i64 k] w fun e w' => e = .returned (.bool (existsB n at' k)) ∧ w = w' := by
  by_cases hr : 1 ≤ k ∧ k ≤ 8
  · have hr' : rightW k = true := by unfold rightW; simp [hr]
    have HR := Lib.hid hr'
    clear hr'
    obtain ⟨k1, k2⟩ := hr
    by_cases h2 : 0 ≤ at'
    · have d2 : decide (0 ≤ at') = true := by simp [h2]
      have e : existsB n at' k = decide (at' ≤ n - k) := by unfold existsB; simp [h2, k1, k2]
      rw [e]
      go_enter Tryd.func63, Tryd.ntmps63
      go_wp2_with fail
      refine (right_any _ _).mono ?_
      rw [HR.out]
      rintro e w1 ⟨rfl, rfl⟩
      go_wp2
      go_ret
      exact ⟨rfl, rfl⟩
    · have d2 : decide (0 ≤ at') = false := by simp; omega
      have e : existsB n at' k = false := by unfold existsB; simp; omega
      rw [e]
      go_enter Tryd.func63, Tryd.ntmps63
      go_wp2_with fail
      refine (right_any _ _).mono ?_
      rw [HR.out]
      rintro e w1 ⟨rfl, rfl⟩
      go_wp2
      go_ret
      exact ⟨rfl, rfl⟩
  · have hr' : rightW k = false := by unfold rightW; simp only [hr, decide_false]
    have e : existsB n at' k = false := by unfold existsB; simp only [decide_eq_false_iff_not]; omega
    rw [e]
    have HR := Lib.hid hr'
    clear hr' hr e
    go_enter Tryd.func63, Tryd.ntmps63
    go_wp2_with fail
    refine (right_any _ _).mono ?_
    rw [HR.out]
    rintro e w1 ⟨rfl, rfl⟩
    go_wp2
    go_ret
    exact ⟨rfl, rfl⟩
theorem or_oct (bs : List UInt8) (j : Nat) (hj : j < 8) (hl : j < bs.length) :
    bits .or .u64 (num (bs.take j) : Nat) (IntKind.u64.wrap (((bs.getD j 0).toNat : Int) * 2 ^ (8 * j))) = ((num (bs.take (j + 1)) : Nat) : Int) := by
  have h1 := num_lt (bs.take j)
  have h2 := (bs.getD j 0).toNat_lt
  rw [List.length_take, Nat.min_eq_left (by omega), show (256 : Nat) ^ j = 2 ^ (8 * j) by rw [Nat.pow_mul]] at h1
  have e1 : num (bs.take (j + 1)) = num (bs.take j) + 2 ^ (8 * j) * (bs.getD j 0).toNat := by
    rw [List.take_succ_eq_append_getElem hl, num_append, List.length_take, Nat.min_eq_left (by omega), show (256 : Nat) ^ j = 2 ^ (8 * j) by rw [Nat.pow_mul], List.getD_eq_getElem?_getD, List.getElem?_eq_getElem hl]
    simp [num]
  rw [e1]
  generalize num (bs.take j) = a at *
  generalize (bs.getD j 0).toNat = q at *
  have e2 : ((q : Int) * 2 ^ (8 * j)) = ((2 ^ (8 * j) * q : Nat) : Int) := by
    rw [Int.natCast_mul, Int.mul_comm]
    simp
  have h3 : 2 ^ (8 * j) * q < 2 ^ 64 := by
    have ha : 2 ^ (8 * j) * q < 2 ^ (8 * j) * 2 ^ 8 := Nat.mul_lt_mul_of_pos_left (by omega) (Nat.two_pow_pos _)
    have hb : 2 ^ (8 * j) * 2 ^ 8 ≤ 2 ^ 64 := by rw [← Nat.pow_add]; exact Nat.pow_le_pow_right (by omega) (by omega)
    omega
  have h4 : a < 2 ^ 64 := by
    have : 2 ^ (8 * j) ≤ 2 ^ 64 := Nat.pow_le_pow_right (by omega) (by omega)
    omega
  rw [e2, IntWalk.u64_in _ (by omega), u64_or_nat _ _ (by omega) (by omega), Nat.or_comm, ← Nat.two_pow_add_eq_or_of_lt h1, Nat.add_comm]
theorem get_no (A : Option Addr) (n c : Nat) (at' k : Int) (w : World) (hn : n ≤ 9223372036854775807) (h0 : -9223372036854775808 ≤ at') (h1 : at' ≤ 9223372036854775807) (hx : existsB n at' k = false) :
    Calls Tryd.prog 54 #[.slice A n c, .int .i64 at', .int .i64 k] w fun e w' => e = .returned (.tuple #[.int .u64 0, .bool false]) ∧ w = w' := by
  have HX := Lib.hid hx
  clear hx
  go_enter Tryd.func54, Tryd.ntmps54
  go_wp2_with fail
  refine (exists_any _ _ _ _ _ _ hn h0 h1).mono ?_
  rw [HX.out]
  rintro e w1 ⟨rfl, rfl⟩
  go_wp2
  go_ret2
  exact ⟨rfl, rfl⟩
set_option maxHeartbeats 1000000 in
theorem get_yes (A : Option Addr) (n c : Nat) (bs : List UInt8) (S : Nat → Prop) (p k : Nat) (w : World) (hB : Bs w S A n bs) (hn : n ≤ 140737488355328) (h1 : 1 ≤ k) (h2 : k ≤ 8) (h3 : p + k ≤ n) :
    Calls Tryd.prog 54 #[.slice A n c, .int .i64 p, .int .i64 k] w fun e w' => e = .returned (.tuple #[.int .u64 (num ((bs.drop p).take k) : Nat), .bool true]) ∧ w = w' := by
  have HB := Lib.hid hB
  have HX : Hid (existsB n p k = true) := Lib.hid (by unfold existsB; simp; omega)
  clear hB
  go_enter Tryd.func54, Tryd.ntmps54
  go_wp2_with fail
  refine (exists_any _ _ _ _ _ _ (by omega) (by omega) (by omega)).mono ?_
  rw [HX.out]
  rintro e w1 ⟨rfl, rfl⟩
  go_wp2
  go_loop [8, 9, 16] (fun v _ i => ∃ j : Nat, j ≤ k ∧ i = .int .i64 j ∧ v = .int .u64 (num ((bs.drop p).take j) : Nat)) (fun _ _ i => k - (intOf i).toNat)
  case atStart => exact ⟨0, Nat.zero_le _, rfl, rfl⟩
  case round =>
    obtain ⟨j, hj, rfl, rfl⟩ := hrel
    by_cases hlt : j < k
    · obtain ⟨b, off, rfl, _, _, hc⟩ := HB.out.at_ (i := p + j) (by omega)
      have hcb := byte_bd (bs.getD (p + j) 0)
      have hor := or_oct (bs.drop p) j (by omega) (by have := HB.out.len; simp; omega)
      rw [show (bs.drop p).getD j 0 = bs.getD (p + j) 0 by simp [List.getD_eq_getElem?_getD]] at hor
      have HOR := Lib.hid hor
      clear hor
      generalize bs.getD (p + j) 0 = q at *
      have k0 : (0 : Int) ≤ (p : Int) + j := by omega
      have k1 : (p : Int) + j < (n : Int) := by omega
      go_wp2
      exact ⟨⟨j + 1, by omega, by go_num, by rw [HOR.out]⟩, by simp [intOf]; omega⟩
    · obtain rfl : j = k := by omega
      go_wp2
      go_ret2
      exact ⟨rfl, rfl⟩
theorem pow_le8 (n : Nat) (h : n ≤ 8) : 256 ^ n ≤ 18446744073709551616 := by
  have : (256 : Nat) ^ n ≤ 256 ^ 8 := Nat.pow_le_pow_right (by omega) h
  exact this
set_option maxHeartbeats 400000 in
theorem number_any (A : Option Addr) (n c : Nat) (bs : List UInt8) (S : Nat → Prop) (w : World) (hB : Bs w S A n bs) (hn : n ≤ 8) :
    Calls Tryd.prog 32 #[.slice A n c] w fun e w' => e = .returned (.int .u64 (num bs : Nat)) ∧ w = w' := by
  have hl := hB.len
  have HB := Lib.hid hB
  clear hB
  go_enter Tryd.func32, Tryd.ntmps32
  go_wp2
  go_loop [3, 4] (fun v i => ∃ m : Nat, m ≤ n ∧ i = .int .i64 ((m : Int) - 1) ∧ v = .int .u64 (num (bs.drop m) : Nat)) (fun _ i => (intOf i + 1).toNat)
  case atStart => exact ⟨n, Nat.le_refl _, rfl, by rw [List.drop_eq_nil_of_le (by omega)]; rfl⟩
  case round =>
    obtain ⟨m, hm, rfl, rfl⟩ := hrel
    by_cases hlt : 0 < m
    · obtain ⟨j, rfl⟩ : ∃ j, m = j + 1 := ⟨m - 1, by omega⟩
      obtain ⟨b, off, rfl, _, _, hc⟩ := HB.out.at_ (i := j) (by omega)
      have hcb := byte_bd (bs.getD j 0)
      have HN : Hid (num (bs.drop j) = (bs.getD j 0).toNat + 256 * num (bs.drop (j + 1))) := Lib.hid (by
        rw [List.drop_eq_getElem_cons (show j < bs.length by omega), num, List.getD_eq_getElem?_getD, List.getElem?_eq_getElem (show j < bs.length by omega)]
        rfl)
      have hb1 := num_lt (bs.drop j)
      rw [List.length_drop] at hb1
      have hb2 := pow_le8 (bs.length - j) (by omega)
      rw [HN.out] at hb1
      have hb3 : (bs.getD j 0).toNat + 256 * num (bs.drop (j + 1)) < 18446744073709551616 := by omega
      clear hb1 hb2
      generalize num (bs.drop (j + 1)) = x at *
      generalize bs.getD j 0 = q at *
      have ej : (((j + 1 : Nat) : Int) - 1) = (j : Int) := by omega
      rw [ej]
      go_wp2
      exact ⟨⟨j, by omega, rfl, by rw [HN.out]; congr 1; omega⟩, by simp [intOf]⟩
    · obtain rfl : m = 0 := by omega
      go_wp2
      go_ret
      exact ⟨rfl, rfl⟩
end Go.Proofs.YtdmglpnieiiigaaDoor
