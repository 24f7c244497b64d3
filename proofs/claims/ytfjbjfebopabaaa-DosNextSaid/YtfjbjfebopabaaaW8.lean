import Derived.Test.YtfjbjfebopabaaaW7
namespace Go.Proofs.Ytfjbjfebopabaaa
open Go.RowKit

def rightD (a b : Int) : Bool := rightB (1980 + a / 512) (a / 32 % 16) (a % 32) (b / 2048) (b / 32 % 64) (b % 32 * 2)
abbrev tmD (a b : Int) : Value := tm (1980 + a / 512) (a / 32 % 16) (a % 32) (b / 2048) (b / 32 % 64) (b % 32 * 2)
theorem right_b {y mo d h mi s : Int} {r : Bool} (w : World) (hb : rightB y mo d h mi s = r) :
    Calls Try.prog 11 #[tm y mo d h mi s] w fun e w' => e = .returned (.bool r) ∧ Below w.heap.size w w' := by
  rw [← hb]; exact right_any _ _ _ _ _ _ _
theorem and16 (n : Int) (h0 : 0 ≤ n) (h1 : n < 65536) (m : Nat) (k : Nat) (hm : m = 2 ^ k - 1) (hk : k ≤ 15) : bits .and .u16 n (m : Int) = n % ((2 ^ k : Nat) : Int) := by
  subst hm
  obtain ⟨a, rfl⟩ := Int.eq_ofNat_of_zero_le h0
  have hp : 2 ^ k ≤ 2 ^ 15 := Nat.pow_le_pow_right (by omega) hk
  have hp' : 0 < 2 ^ k := Nat.pow_pos (by omega)
  rw [u16_and_nat a _ (by omega) (by omega), Nat.and_two_pow_sub_one_eq_mod]
  omega
set_option maxHeartbeats 1000000 in
theorem decode_any (a b : Int) (w : World) (r : Bool) (hr : rightD a b = r) (a0 : 0 ≤ a) (a1 : a < 65536) (b0 : 0 ≤ b) (b1 : b < 65536) :
    Calls Try.prog 9 #[.int .u16 a, .int .u16 b] w fun e w' => e = .returned (.tuple #[if r then tmD a b else tm 0 0 0 0 0 0, .int .i64 (if r then 0 else 34)]) ∧ Below w.heap.size w w' := by
  have e1 : bits .and .u16 (a / 32) 15 = a / 32 % 16 := and16 _ (by omega) (by omega) 15 4 rfl (by omega)
  have e2 : bits .and .u16 a 31 = a % 32 := and16 _ (by omega) (by omega) 31 5 rfl (by omega)
  have e3 : bits .and .u16 (b / 32) 63 = b / 32 % 64 := and16 _ (by omega) (by omega) 63 6 rfl (by omega)
  have e4 : bits .and .u16 b 31 = b % 32 := and16 _ (by omega) (by omega) 31 5 rfl (by omega)
  have HR := Lib.hid hr
  clear hr
  go_enter Try.func9, Try.ntmps9
  go_wp2_with fail
  refine (right_b _ HR.out).mono ?_
  rintro e w1 ⟨rfl, hb1⟩
  have k0 := fun o => (bcell hb1).1 w.heap.size o (by simp; omega)
  have k1 := fun o => (bcell hb1).1 (w.heap.size + 1) o (by simp)
  have f0 := fun o => (bcell hb1).2 w.heap.size o (by simp; omega)
  have HB1 := Lib.hid hb1
  have hbw : Below w.heap.size w w1 := (((Below.refl w.heap.size w).alloc (Nat.le_refl _) _).alloc (by simp) _).trans (hb1.mono (by simp; omega))
  have HBW := Lib.hid hbw
  clear hb1 hbw
  rcases r with _ | _
  · go_wp2
    refine bodyPost_ret (v := .tuple #[tm 0 0 0 0 0 0, .int .i64 34]) (by simp [results, Try.results9, go_sem, k0, f0]) rfl ⟨rfl, ?_⟩
    iterate 6 refine Below.setCell ?_ (by exact Nat.le_refl _) _
    exact HBW.out
  · go_wp2
    refine bodyPost_ret (v := .tuple #[tmD a b, .int .i64 0]) (by simp [results, Try.results9, go_sem, k0, f0]) rfl ⟨rfl, ?_⟩
    iterate 6 refine Below.setCell ?_ (by exact Nat.le_refl _) _
    exact HBW.out
set_option maxHeartbeats 1000000 in
theorem rdecode_any (a b : Int) (w : World) (r : Bool) (hr : rightD a b = r) (a0 : 0 ≤ a) (a1 : a < 65536) (b0 : 0 ≤ b) (b1 : b < 65536) :
    Calls Try.prog 10 #[.int .i64 a, .int .i64 b] w fun e w' => e = .returned (.tuple #[if r then tmD a b else tm 0 0 0 0 0 0, .bool r]) ∧ Below w.heap.size w w' := by
  have HR := Lib.hid hr
  clear hr
  go_enter Try.func10, Try.ntmps10
  go_wp2_with fail
  refine (rright_b _ HR.out).mono ?_
  rintro e w1 ⟨rfl, hb1⟩
  have k0 := fun o => (bcell hb1).1 w.heap.size o (by simp; omega)
  have k1 := fun o => (bcell hb1).1 (w.heap.size + 1) o (by simp)
  have f0 := fun o => (bcell hb1).2 w.heap.size o (by simp; omega)
  have HB1 := Lib.hid hb1
  have hbw : Below w.heap.size w w1 := (((Below.refl w.heap.size w).alloc (Nat.le_refl _) _).alloc (by simp) _).trans (hb1.mono (by simp; omega))
  have HBW := Lib.hid hbw
  clear hb1 hbw
  rcases r with _ | _
  · go_wp2
    refine bodyPost_ret (v := .tuple #[tm 0 0 0 0 0 0, .bool false]) (by simp [results, Try.results10, go_sem, k0, f0]) rfl ⟨rfl, ?_⟩
    iterate 6 refine Below.setCell ?_ (by exact Nat.le_refl _) _
    exact HBW.out
  · go_wp2
    refine bodyPost_ret (v := .tuple #[tmD a b, .bool true]) (by simp [results, Try.results10, go_sem, k0, f0]) rfl ⟨rfl, ?_⟩
    iterate 6 refine Below.setCell ?_ (by exact Nat.le_refl _) _
    exact HBW.out
end Go.Proofs.Ytfjbjfebopabaaa
