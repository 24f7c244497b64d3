/- BitoutReverse, for all numbers. -/
import Derived.Test.YthpbiakjkmhfeaaW5
namespace Go.Proofs.Ythpbiakjkmhfeaa
open Go.RowKit

set_option maxHeartbeats 2000000 in
theorem reverse_law (x : Nat) (n : Int) (w : World) (hx : x < 2 ^ 32) : Calls Try.prog 4 #[.int .u32 x, .int .i64 n] w fun e w' => e = .returned (.bool true) ∧ Below w.heap.size w w' := by
  obtain ⟨k, hk⟩ : ∃ k, clampK n = k := ⟨_, rfl⟩
  obtain ⟨m, hm⟩ : ∃ m : Nat, max n 0 = m := ⟨(max n 0).toNat, by omega⟩
  have h1 : (if n < 0 then (0 : Int) else n) = m := by rw [← hm]; split <;> omega
  have h2 : (if 32 < (m : Int) then (32 : Int) else m) = k := by rw [← hk]; unfold clampK; rw [hm]; split <;> omega
  have hk32 : k ≤ 32 := by have : clampK n = k := hk; unfold clampK at this; omega
  obtain ⟨y, hy⟩ : ∃ y, revN x k = y := ⟨_, rfl⟩
  have hy32 : y < 2 ^ 32 := by rw [← hy]; exact Nat.lt_of_lt_of_le (revN_lt x k) (Nat.pow_le_pow_right (by omega) hk32)
  have hz : revN y k = x % 2 ^ k := by rw [← hy]; exact revN_twice x k
  obtain ⟨z, hz2⟩ : ∃ z, revN y k = z := ⟨_, rfl⟩
  rw [hz2] at hz
  have R1 := fun w => rev_any x n w hx
  have R2 := fun w => rref_any x n w hx
  have R3 := fun w => rev_any y n w hy32
  rw [hk] at R1 R2 R3
  rw [hy] at R1 R2
  rw [hz2] at R3
  have hp : 2 ^ k ≤ 2 ^ 32 := Nat.pow_le_pow_right (by omega) hk32
  have W1 : IntKind.u64.wrap (x : Int) = x := wrap_u64n _ (by omega)
  have W2 : IntKind.u64.wrap (z : Int) = z := wrap_u64n _ (by have := Nat.mod_le x (2 ^ k); omega)
  obtain ⟨P, hP⟩ : ∃ P, 2 ^ k = P := ⟨_, rfl⟩
  have W3 : IntKind.u64.wrap ((2 : Int) ^ k) = (P : Int) := by rw [show ((2 : Int) ^ k) = ((2 ^ k : Nat) : Int) by simp, wrap_u64n _ (by omega), hP]
  have P0 : 0 < P := by rw [← hP]; exact Nat.pow_pos (by omega)
  have hP0 : ¬ (P : Int) = 0 := by omega
  rw [hP] at hz
  have E1 : ((z : Int) == (x : Int) % (P : Int)) = true := by rw [hz]; simp
  have R1 := Lib.hid R1
  have R2 := Lib.hid R2
  have R3 := Lib.hid R3
  clear hx hk hy hy32 hz hz2 hp hm hP
  go_enter Try.func4, Try.ntmps4
  go_wp2_with fail
  refine (awake_any _).mono ?_
  rintro e w1 ⟨rfl, hb1⟩
  have HB1 := Lib.hid hb1
  clear hb1
  go_wp2_with fail
  refine (R1.out _).mono ?_
  rintro e w2 ⟨rfl, rfl⟩
  go_wp2
  refine wp_region_over (by kernel_rfl) (by kernel_rfl) ?_
  repeat (go_big_quiet_step ((first | (go_at_call 20; exact Calls.over_of (R2.out _)) | (go_at_call 19; exact Calls.over_same (R3.out _)))))
  refine wpQuiet_nil ?_
  intro w6 hb6
  go_wp2
  go_ret
  exact ⟨rfl, HB1.out.trans (hb6.mono HB1.out.size)⟩
end Go.Proofs.Ythpbiakjkmhfeaa
