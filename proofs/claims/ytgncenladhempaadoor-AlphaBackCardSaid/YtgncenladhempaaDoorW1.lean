/- What AlphaParts calls: each function's contract. -/
import Derived.Test.YtgncenladhempaaDoorRows
import Derived.Test.YtgncenladhempaaDoorOver
import Derived.Test.YtgncenladhempaaDoorList
import Derived.Test.YtgncenladhempaaDoorBits
import Derived.Test.YtgncenladhempaaDoorBlk
import Derived.Test.YtgncenladhempaaDoorShelf
import Derived.WalkSpells
import Derived.WalkLawsBesides
import Derived.Lib.Hide
import Derived.Lib.ItoaNum
import Derived.LoopTactic
namespace Go.Proofs.YtgncenladhempaaDoor
open Go.RowKit

def lb : List Int := [3, 4, 5, 6, 7, 8, 9, 10, 11, 13, 15, 17, 19, 23, 27, 31, 35, 43, 51, 59, 67, 83, 99, 115, 131, 163, 195, 227, 258]
def lx : List Int := [0, 0, 0, 0, 0, 0, 0, 0, 1, 1, 1, 1, 2, 2, 2, 2, 3, 3, 3, 3, 4, 4, 4, 4, 5, 5, 5, 5, 0]
def db : List Int := [1, 2, 3, 4, 5, 7, 9, 13, 17, 25, 33, 49, 65, 97, 129, 193, 257, 385, 513, 769, 1025, 1537, 2049, 3073, 4097, 6145, 8193, 12289, 16385, 24577]
def dx : List Int := [0, 0, 0, 0, 1, 1, 2, 2, 3, 3, 4, 4, 5, 5, 6, 6, 7, 7, 8, 8, 9, 9, 10, 10, 11, 11, 12, 12, 13, 13]
/-- The last of the first m whose number is not above n. -/
def findN (l : List Int) (n : Int) : Nat → Nat
  | 0 => 0
  | m + 1 => if l.getD m 0 ≤ n then m else findN l n m
theorem findN_eq (l : List Int) (n : Int) (k : Nat) (h : l.getD k 0 ≤ n) : ∀ m, k < m → (∀ j, k < j → j < m → n < l.getD j 0) → findN l n m = k
  | 0, hm, _ => absurd hm (by omega)
  | m + 1, hm, hj => by
    unfold findN
    rcases Nat.lt_or_ge k m with hk | hk
    · rw [if_neg (by have := hj m hk (by omega); omega)]
      exact findN_eq l n k h m hk fun j h1 h2 => hj j h1 (by omega)
    · obtain rfl : k = m := by omega
      rw [if_pos h]
theorem findN_lt (l : List Int) (n : Int) : ∀ m, 0 < m → findN l n m < m
  | 0, h => absurd h (by omega)
  | m + 1, _ => by
    unfold findN
    split
    · omega
    · rcases Nat.eq_zero_or_pos m with h0 | h0
      · subst h0
        exact Nat.zero_lt_one
      · have := findN_lt l n m h0
        omega
theorem bitLen_of (x k : Nat) (h0 : 0 < k) (h1 : 2 ^ (k - 1) ≤ x) (h2 : x < 2 ^ k) (hk : k ≤ 63) : Lib.bitLen x = k := by
  have h3 := Lib.bitLen_le x k (by omega) h2
  have hp : 0 < 2 ^ (k - 1) := Nat.two_pow_pos _
  have h4 := Lib.bitLenAux_bounds 64 x (Nat.lt_trans h2 (Nat.pow_lt_pow_right (by omega) (by omega))) (by omega)
  have h5 : Lib.bitLenAux 64 x = Lib.bitLen x := rfl
  rw [h5] at h4
  rcases Nat.lt_or_ge (Lib.bitLen x) k with hl | hl
  · have := Nat.pow_le_pow_right (n := 2) (by omega) (show Lib.bitLen x ≤ k - 1 by omega)
    omega
  · omega
theorem and_low (x : Int) (e : Nat) (he : e ≤ 20) (h0 : 0 ≤ x) (h1 : x < 9223372036854775808) : bits .and .i64 x ((2 ^ e - 1 : Nat) : Int) = x % ((2 ^ e : Nat) : Int) := by
  obtain ⟨a, rfl⟩ := Int.eq_ofNat_of_zero_le h0
  have hp : 2 ^ e ≤ 2 ^ 20 := Nat.pow_le_pow_right (by omega) he
  rw [bits_and_i64 a _ (by omega) (by omega), Nat.and_two_pow_sub_one_eq_mod]
  rfl
theorem ret_part {a b c a' b' c' : Int} {x : Bool} (h1 : a = a') (h2 : b = b') (h3 : c = c') : Ending.returned (.tuple #[.agg #[.int .i64 a, .int .i64 b, .int .i64 c], .bool x]) = .returned (.tuple #[.agg #[.int .i64 a', .int .i64 b', .int .i64 c'], .bool x]) := by rw [h1, h2, h3]
abbrev part (a b c : Int) (x : Bool) : Value := .tuple #[.agg #[.int .i64 a, .int .i64 b, .int .i64 c], .bool x]
theorem dist_0 (n : Int) (w : World) (h1 : 2 ≤ n - 1) (h2 : n - 1 < 4) :
    Calls Tryd.prog 19 #[.int .i64 n] w fun e w' => e = .returned (part (n - 1) 0 (0) true) ∧ Below w.heap.size w w' := by
  have L : Lib.bitLen (n - 1).toNat = 2 := bitLen_of _ _ (by omega) (by omega) (by omega) (by omega)
  have m : bits .and .i64 (n - 1) 0 = 0 := (and_low (n - 1) 0 (by omega) (by omega) (by omega)).trans (by omega)
  go_enter Tryd.func19, Tryd.ntmps19
  go_wp2_with (go_at_call 20; refine (Tryd.bits_Len _ _ (by omega) (by omega)).mono ?_; rintro e w1 ⟨rfl, rfl⟩; rw [L])
  exact bodyPost_ret (v := part (n - 1) 0 (0) true) (by simp [results, Tryd.results19, go_sem]) rfl ⟨rfl, (Below.refl _ _).alloc (Nat.le_refl _) _⟩
theorem dist_1 (n : Int) (w : World) (h1 : 4 ≤ n - 1) (h2 : n - 1 < 8) :
    Calls Tryd.prog 19 #[.int .i64 n] w fun e w' => e = .returned (part (2 + (n - 1) / 2) 1 ((n - 1) % 2) true) ∧ Below w.heap.size w w' := by
  have L : Lib.bitLen (n - 1).toNat = 3 := bitLen_of _ _ (by omega) (by omega) (by omega) (by omega)
  have m : bits .and .i64 (n - 1) 1 = (n - 1) % 2 := and_low (n - 1) 1 (by omega) (by omega) (by omega)
  go_enter Tryd.func19, Tryd.ntmps19
  go_wp2_with (go_at_call 20; refine (Tryd.bits_Len _ _ (by omega) (by omega)).mono ?_; rintro e w1 ⟨rfl, rfl⟩; rw [L])
  exact bodyPost_ret (v := part (2 + (n - 1) / 2) 1 ((n - 1) % 2) true) (by simp [results, Tryd.results19, go_sem]) rfl ⟨rfl, (Below.refl _ _).alloc (Nat.le_refl _) _⟩
theorem dist_2 (n : Int) (w : World) (h1 : 8 ≤ n - 1) (h2 : n - 1 < 16) :
    Calls Tryd.prog 19 #[.int .i64 n] w fun e w' => e = .returned (part (4 + (n - 1) / 4) 2 ((n - 1) % 4) true) ∧ Below w.heap.size w w' := by
  have L : Lib.bitLen (n - 1).toNat = 4 := bitLen_of _ _ (by omega) (by omega) (by omega) (by omega)
  have m : bits .and .i64 (n - 1) 3 = (n - 1) % 4 := and_low (n - 1) 2 (by omega) (by omega) (by omega)
  go_enter Tryd.func19, Tryd.ntmps19
  go_wp2_with (go_at_call 20; refine (Tryd.bits_Len _ _ (by omega) (by omega)).mono ?_; rintro e w1 ⟨rfl, rfl⟩; rw [L])
  exact bodyPost_ret (v := part (4 + (n - 1) / 4) 2 ((n - 1) % 4) true) (by simp [results, Tryd.results19, go_sem]) rfl ⟨rfl, (Below.refl _ _).alloc (Nat.le_refl _) _⟩
theorem dist_3 (n : Int) (w : World) (h1 : 16 ≤ n - 1) (h2 : n - 1 < 32) :
    Calls Tryd.prog 19 #[.int .i64 n] w fun e w' => e = .returned (part (6 + (n - 1) / 8) 3 ((n - 1) % 8) true) ∧ Below w.heap.size w w' := by
  have L : Lib.bitLen (n - 1).toNat = 5 := bitLen_of _ _ (by omega) (by omega) (by omega) (by omega)
  have m : bits .and .i64 (n - 1) 7 = (n - 1) % 8 := and_low (n - 1) 3 (by omega) (by omega) (by omega)
  go_enter Tryd.func19, Tryd.ntmps19
  go_wp2_with (go_at_call 20; refine (Tryd.bits_Len _ _ (by omega) (by omega)).mono ?_; rintro e w1 ⟨rfl, rfl⟩; rw [L])
  exact bodyPost_ret (v := part (6 + (n - 1) / 8) 3 ((n - 1) % 8) true) (by simp [results, Tryd.results19, go_sem]) rfl ⟨rfl, (Below.refl _ _).alloc (Nat.le_refl _) _⟩
theorem dist_4 (n : Int) (w : World) (h1 : 32 ≤ n - 1) (h2 : n - 1 < 64) :
    Calls Tryd.prog 19 #[.int .i64 n] w fun e w' => e = .returned (part (8 + (n - 1) / 16) 4 ((n - 1) % 16) true) ∧ Below w.heap.size w w' := by
  have L : Lib.bitLen (n - 1).toNat = 6 := bitLen_of _ _ (by omega) (by omega) (by omega) (by omega)
  have m : bits .and .i64 (n - 1) 15 = (n - 1) % 16 := and_low (n - 1) 4 (by omega) (by omega) (by omega)
  go_enter Tryd.func19, Tryd.ntmps19
  go_wp2_with (go_at_call 20; refine (Tryd.bits_Len _ _ (by omega) (by omega)).mono ?_; rintro e w1 ⟨rfl, rfl⟩; rw [L])
  exact bodyPost_ret (v := part (8 + (n - 1) / 16) 4 ((n - 1) % 16) true) (by simp [results, Tryd.results19, go_sem]) rfl ⟨rfl, (Below.refl _ _).alloc (Nat.le_refl _) _⟩
theorem dist_5 (n : Int) (w : World) (h1 : 64 ≤ n - 1) (h2 : n - 1 < 128) :
    Calls Tryd.prog 19 #[.int .i64 n] w fun e w' => e = .returned (part (10 + (n - 1) / 32) 5 ((n - 1) % 32) true) ∧ Below w.heap.size w w' := by
  have L : Lib.bitLen (n - 1).toNat = 7 := bitLen_of _ _ (by omega) (by omega) (by omega) (by omega)
  have m : bits .and .i64 (n - 1) 31 = (n - 1) % 32 := and_low (n - 1) 5 (by omega) (by omega) (by omega)
  go_enter Tryd.func19, Tryd.ntmps19
  go_wp2_with (go_at_call 20; refine (Tryd.bits_Len _ _ (by omega) (by omega)).mono ?_; rintro e w1 ⟨rfl, rfl⟩; rw [L])
  exact bodyPost_ret (v := part (10 + (n - 1) / 32) 5 ((n - 1) % 32) true) (by simp [results, Tryd.results19, go_sem]) rfl ⟨rfl, (Below.refl _ _).alloc (Nat.le_refl _) _⟩
theorem dist_6 (n : Int) (w : World) (h1 : 128 ≤ n - 1) (h2 : n - 1 < 256) :
    Calls Tryd.prog 19 #[.int .i64 n] w fun e w' => e = .returned (part (12 + (n - 1) / 64) 6 ((n - 1) % 64) true) ∧ Below w.heap.size w w' := by
  have L : Lib.bitLen (n - 1).toNat = 8 := bitLen_of _ _ (by omega) (by omega) (by omega) (by omega)
  have m : bits .and .i64 (n - 1) 63 = (n - 1) % 64 := and_low (n - 1) 6 (by omega) (by omega) (by omega)
  go_enter Tryd.func19, Tryd.ntmps19
  go_wp2_with (go_at_call 20; refine (Tryd.bits_Len _ _ (by omega) (by omega)).mono ?_; rintro e w1 ⟨rfl, rfl⟩; rw [L])
  exact bodyPost_ret (v := part (12 + (n - 1) / 64) 6 ((n - 1) % 64) true) (by simp [results, Tryd.results19, go_sem]) rfl ⟨rfl, (Below.refl _ _).alloc (Nat.le_refl _) _⟩
theorem dist_7 (n : Int) (w : World) (h1 : 256 ≤ n - 1) (h2 : n - 1 < 512) :
    Calls Tryd.prog 19 #[.int .i64 n] w fun e w' => e = .returned (part (14 + (n - 1) / 128) 7 ((n - 1) % 128) true) ∧ Below w.heap.size w w' := by
  have L : Lib.bitLen (n - 1).toNat = 9 := bitLen_of _ _ (by omega) (by omega) (by omega) (by omega)
  have m : bits .and .i64 (n - 1) 127 = (n - 1) % 128 := and_low (n - 1) 7 (by omega) (by omega) (by omega)
  go_enter Tryd.func19, Tryd.ntmps19
  go_wp2_with (go_at_call 20; refine (Tryd.bits_Len _ _ (by omega) (by omega)).mono ?_; rintro e w1 ⟨rfl, rfl⟩; rw [L])
  exact bodyPost_ret (v := part (14 + (n - 1) / 128) 7 ((n - 1) % 128) true) (by simp [results, Tryd.results19, go_sem]) rfl ⟨rfl, (Below.refl _ _).alloc (Nat.le_refl _) _⟩
theorem dist_8 (n : Int) (w : World) (h1 : 512 ≤ n - 1) (h2 : n - 1 < 1024) :
    Calls Tryd.prog 19 #[.int .i64 n] w fun e w' => e = .returned (part (16 + (n - 1) / 256) 8 ((n - 1) % 256) true) ∧ Below w.heap.size w w' := by
  have L : Lib.bitLen (n - 1).toNat = 10 := bitLen_of _ _ (by omega) (by omega) (by omega) (by omega)
  have m : bits .and .i64 (n - 1) 255 = (n - 1) % 256 := and_low (n - 1) 8 (by omega) (by omega) (by omega)
  go_enter Tryd.func19, Tryd.ntmps19
  go_wp2_with (go_at_call 20; refine (Tryd.bits_Len _ _ (by omega) (by omega)).mono ?_; rintro e w1 ⟨rfl, rfl⟩; rw [L])
  exact bodyPost_ret (v := part (16 + (n - 1) / 256) 8 ((n - 1) % 256) true) (by simp [results, Tryd.results19, go_sem]) rfl ⟨rfl, (Below.refl _ _).alloc (Nat.le_refl _) _⟩
theorem dist_9 (n : Int) (w : World) (h1 : 1024 ≤ n - 1) (h2 : n - 1 < 2048) :
    Calls Tryd.prog 19 #[.int .i64 n] w fun e w' => e = .returned (part (18 + (n - 1) / 512) 9 ((n - 1) % 512) true) ∧ Below w.heap.size w w' := by
  have L : Lib.bitLen (n - 1).toNat = 11 := bitLen_of _ _ (by omega) (by omega) (by omega) (by omega)
  have m : bits .and .i64 (n - 1) 511 = (n - 1) % 512 := and_low (n - 1) 9 (by omega) (by omega) (by omega)
  go_enter Tryd.func19, Tryd.ntmps19
  go_wp2_with (go_at_call 20; refine (Tryd.bits_Len _ _ (by omega) (by omega)).mono ?_; rintro e w1 ⟨rfl, rfl⟩; rw [L])
  exact bodyPost_ret (v := part (18 + (n - 1) / 512) 9 ((n - 1) % 512) true) (by simp [results, Tryd.results19, go_sem]) rfl ⟨rfl, (Below.refl _ _).alloc (Nat.le_refl _) _⟩
theorem dist_10 (n : Int) (w : World) (h1 : 2048 ≤ n - 1) (h2 : n - 1 < 4096) :
    Calls Tryd.prog 19 #[.int .i64 n] w fun e w' => e = .returned (part (20 + (n - 1) / 1024) 10 ((n - 1) % 1024) true) ∧ Below w.heap.size w w' := by
  have L : Lib.bitLen (n - 1).toNat = 12 := bitLen_of _ _ (by omega) (by omega) (by omega) (by omega)
  have m : bits .and .i64 (n - 1) 1023 = (n - 1) % 1024 := and_low (n - 1) 10 (by omega) (by omega) (by omega)
  go_enter Tryd.func19, Tryd.ntmps19
  go_wp2_with (go_at_call 20; refine (Tryd.bits_Len _ _ (by omega) (by omega)).mono ?_; rintro e w1 ⟨rfl, rfl⟩; rw [L])
  exact bodyPost_ret (v := part (20 + (n - 1) / 1024) 10 ((n - 1) % 1024) true) (by simp [results, Tryd.results19, go_sem]) rfl ⟨rfl, (Below.refl _ _).alloc (Nat.le_refl _) _⟩
theorem dist_11 (n : Int) (w : World) (h1 : 4096 ≤ n - 1) (h2 : n - 1 < 8192) :
    Calls Tryd.prog 19 #[.int .i64 n] w fun e w' => e = .returned (part (22 + (n - 1) / 2048) 11 ((n - 1) % 2048) true) ∧ Below w.heap.size w w' := by
  have L : Lib.bitLen (n - 1).toNat = 13 := bitLen_of _ _ (by omega) (by omega) (by omega) (by omega)
  have m : bits .and .i64 (n - 1) 2047 = (n - 1) % 2048 := and_low (n - 1) 11 (by omega) (by omega) (by omega)
  go_enter Tryd.func19, Tryd.ntmps19
  go_wp2_with (go_at_call 20; refine (Tryd.bits_Len _ _ (by omega) (by omega)).mono ?_; rintro e w1 ⟨rfl, rfl⟩; rw [L])
  exact bodyPost_ret (v := part (22 + (n - 1) / 2048) 11 ((n - 1) % 2048) true) (by simp [results, Tryd.results19, go_sem]) rfl ⟨rfl, (Below.refl _ _).alloc (Nat.le_refl _) _⟩
theorem dist_12 (n : Int) (w : World) (h1 : 8192 ≤ n - 1) (h2 : n - 1 < 16384) :
    Calls Tryd.prog 19 #[.int .i64 n] w fun e w' => e = .returned (part (24 + (n - 1) / 4096) 12 ((n - 1) % 4096) true) ∧ Below w.heap.size w w' := by
  have L : Lib.bitLen (n - 1).toNat = 14 := bitLen_of _ _ (by omega) (by omega) (by omega) (by omega)
  have m : bits .and .i64 (n - 1) 4095 = (n - 1) % 4096 := and_low (n - 1) 12 (by omega) (by omega) (by omega)
  go_enter Tryd.func19, Tryd.ntmps19
  go_wp2_with (go_at_call 20; refine (Tryd.bits_Len _ _ (by omega) (by omega)).mono ?_; rintro e w1 ⟨rfl, rfl⟩; rw [L])
  exact bodyPost_ret (v := part (24 + (n - 1) / 4096) 12 ((n - 1) % 4096) true) (by simp [results, Tryd.results19, go_sem]) rfl ⟨rfl, (Below.refl _ _).alloc (Nat.le_refl _) _⟩
theorem dist_13 (n : Int) (w : World) (h1 : 16384 ≤ n - 1) (h2 : n - 1 < 32768) :
    Calls Tryd.prog 19 #[.int .i64 n] w fun e w' => e = .returned (part (26 + (n - 1) / 8192) 13 ((n - 1) % 8192) true) ∧ Below w.heap.size w w' := by
  have L : Lib.bitLen (n - 1).toNat = 15 := bitLen_of _ _ (by omega) (by omega) (by omega) (by omega)
  have m : bits .and .i64 (n - 1) 8191 = (n - 1) % 8192 := and_low (n - 1) 13 (by omega) (by omega) (by omega)
  go_enter Tryd.func19, Tryd.ntmps19
  go_wp2_with (go_at_call 20; refine (Tryd.bits_Len _ _ (by omega) (by omega)).mono ?_; rintro e w1 ⟨rfl, rfl⟩; rw [L])
  exact bodyPost_ret (v := part (26 + (n - 1) / 8192) 13 ((n - 1) % 8192) true) (by simp [results, Tryd.results19, go_sem]) rfl ⟨rfl, (Below.refl _ _).alloc (Nat.le_refl _) _⟩
theorem dist_low (n : Int) (w : World) (h : n < 1) (_h0 : -9223372036854775808 ≤ n) :
    Calls Tryd.prog 19 #[.int .i64 n] w fun e w' => e = .returned (part 0 0 0 false) ∧ Below w.heap.size w w' := by
  go_enter Tryd.func19, Tryd.ntmps19
  go_wp2_with (fail)
  exact bodyPost_ret (v := part 0 0 0 false) (by simp [results, Tryd.results19, go_sem]) rfl ⟨rfl, (Below.refl _ _).alloc (Nat.le_refl _) _⟩
theorem dist_high (n : Int) (w : World) (h : 32768 < n) :
    Calls Tryd.prog 19 #[.int .i64 n] w fun e w' => e = .returned (part 0 0 0 false) ∧ Below w.heap.size w w' := by
  go_enter Tryd.func19, Tryd.ntmps19
  go_wp2_with (fail)
  exact bodyPost_ret (v := part 0 0 0 false) (by simp [results, Tryd.results19, go_sem]) rfl ⟨rfl, (Below.refl _ _).alloc (Nat.le_refl _) _⟩
theorem dist_two (n : Int) (w : World) (h : 1 ≤ n) (h1 : n < 3) :
    Calls Tryd.prog 19 #[.int .i64 n] w fun e w' => e = .returned (part (n - 1) 0 0 true) ∧ Below w.heap.size w w' := by
  go_enter Tryd.func19, Tryd.ntmps19
  go_wp2_with (fail)
  exact bodyPost_ret (v := part (n - 1) 0 0 true) (by simp [results, Tryd.results19, go_sem]) rfl ⟨rfl, (Below.refl _ _).alloc (Nat.le_refl _) _⟩
theorem length_0 (n : Int) (w : World) (h1 : 4 ≤ n - 3) (h2 : n - 3 < 8) (_h5 : n < 258) :
    Calls Tryd.prog 18 #[.int .i64 n] w fun e w' => e = .returned (part (257 + (n - 3)) 0 (0) true) ∧ Below w.heap.size w w' := by
  have L : Lib.bitLen (n - 3).toNat = 3 := bitLen_of _ _ (by omega) (by omega) (by omega) (by omega)
  have m : bits .and .i64 (n - 3) 0 = 0 := (and_low (n - 3) 0 (by omega) (by omega) (by omega)).trans (by omega)
  have h3 : (n == 258) = false := by simp; omega
  have h4 : decide (n = 258) = false := by simp; omega
  go_enter Tryd.func18, Tryd.ntmps18
  go_wp2_with (go_at_call 20; refine (Tryd.bits_Len _ _ (by omega) (by omega)).mono ?_; rintro e w1 ⟨rfl, rfl⟩; rw [L])
  exact bodyPost_ret (v := part (257 + (n - 3)) 0 (0) true) (by simp [results, Tryd.results18, go_sem]) rfl ⟨rfl, (Below.refl _ _).alloc (Nat.le_refl _) _⟩
theorem length_1 (n : Int) (w : World) (h1 : 8 ≤ n - 3) (h2 : n - 3 < 16) (_h5 : n < 258) :
    Calls Tryd.prog 18 #[.int .i64 n] w fun e w' => e = .returned (part (261 + (n - 3) / 2) 1 ((n - 3) % 2) true) ∧ Below w.heap.size w w' := by
  have L : Lib.bitLen (n - 3).toNat = 4 := bitLen_of _ _ (by omega) (by omega) (by omega) (by omega)
  have m : bits .and .i64 (n - 3) 1 = (n - 3) % 2 := and_low (n - 3) 1 (by omega) (by omega) (by omega)
  have h3 : (n == 258) = false := by simp; omega
  have h4 : decide (n = 258) = false := by simp; omega
  go_enter Tryd.func18, Tryd.ntmps18
  go_wp2_with (go_at_call 20; refine (Tryd.bits_Len _ _ (by omega) (by omega)).mono ?_; rintro e w1 ⟨rfl, rfl⟩; rw [L])
  exact bodyPost_ret (v := part (261 + (n - 3) / 2) 1 ((n - 3) % 2) true) (by simp [results, Tryd.results18, go_sem]) rfl ⟨rfl, (Below.refl _ _).alloc (Nat.le_refl _) _⟩
theorem length_2 (n : Int) (w : World) (h1 : 16 ≤ n - 3) (h2 : n - 3 < 32) (_h5 : n < 258) :
    Calls Tryd.prog 18 #[.int .i64 n] w fun e w' => e = .returned (part (265 + (n - 3) / 4) 2 ((n - 3) % 4) true) ∧ Below w.heap.size w w' := by
  have L : Lib.bitLen (n - 3).toNat = 5 := bitLen_of _ _ (by omega) (by omega) (by omega) (by omega)
  have m : bits .and .i64 (n - 3) 3 = (n - 3) % 4 := and_low (n - 3) 2 (by omega) (by omega) (by omega)
  have h3 : (n == 258) = false := by simp; omega
  have h4 : decide (n = 258) = false := by simp; omega
  go_enter Tryd.func18, Tryd.ntmps18
  go_wp2_with (go_at_call 20; refine (Tryd.bits_Len _ _ (by omega) (by omega)).mono ?_; rintro e w1 ⟨rfl, rfl⟩; rw [L])
  exact bodyPost_ret (v := part (265 + (n - 3) / 4) 2 ((n - 3) % 4) true) (by simp [results, Tryd.results18, go_sem]) rfl ⟨rfl, (Below.refl _ _).alloc (Nat.le_refl _) _⟩
theorem length_3 (n : Int) (w : World) (h1 : 32 ≤ n - 3) (h2 : n - 3 < 64) (_h5 : n < 258) :
    Calls Tryd.prog 18 #[.int .i64 n] w fun e w' => e = .returned (part (269 + (n - 3) / 8) 3 ((n - 3) % 8) true) ∧ Below w.heap.size w w' := by
  have L : Lib.bitLen (n - 3).toNat = 6 := bitLen_of _ _ (by omega) (by omega) (by omega) (by omega)
  have m : bits .and .i64 (n - 3) 7 = (n - 3) % 8 := and_low (n - 3) 3 (by omega) (by omega) (by omega)
  have h3 : (n == 258) = false := by simp; omega
  have h4 : decide (n = 258) = false := by simp; omega
  go_enter Tryd.func18, Tryd.ntmps18
  go_wp2_with (go_at_call 20; refine (Tryd.bits_Len _ _ (by omega) (by omega)).mono ?_; rintro e w1 ⟨rfl, rfl⟩; rw [L])
  exact bodyPost_ret (v := part (269 + (n - 3) / 8) 3 ((n - 3) % 8) true) (by simp [results, Tryd.results18, go_sem]) rfl ⟨rfl, (Below.refl _ _).alloc (Nat.le_refl _) _⟩
theorem length_4 (n : Int) (w : World) (h1 : 64 ≤ n - 3) (h2 : n - 3 < 128) (_h5 : n < 258) :
    Calls Tryd.prog 18 #[.int .i64 n] w fun e w' => e = .returned (part (273 + (n - 3) / 16) 4 ((n - 3) % 16) true) ∧ Below w.heap.size w w' := by
  have L : Lib.bitLen (n - 3).toNat = 7 := bitLen_of _ _ (by omega) (by omega) (by omega) (by omega)
  have m : bits .and .i64 (n - 3) 15 = (n - 3) % 16 := and_low (n - 3) 4 (by omega) (by omega) (by omega)
  have h3 : (n == 258) = false := by simp; omega
  have h4 : decide (n = 258) = false := by simp; omega
  go_enter Tryd.func18, Tryd.ntmps18
  go_wp2_with (go_at_call 20; refine (Tryd.bits_Len _ _ (by omega) (by omega)).mono ?_; rintro e w1 ⟨rfl, rfl⟩; rw [L])
  exact bodyPost_ret (v := part (273 + (n - 3) / 16) 4 ((n - 3) % 16) true) (by simp [results, Tryd.results18, go_sem]) rfl ⟨rfl, (Below.refl _ _).alloc (Nat.le_refl _) _⟩
theorem length_5 (n : Int) (w : World) (h1 : 128 ≤ n - 3) (h2 : n - 3 < 256) (_h5 : n < 258) :
    Calls Tryd.prog 18 #[.int .i64 n] w fun e w' => e = .returned (part (277 + (n - 3) / 32) 5 ((n - 3) % 32) true) ∧ Below w.heap.size w w' := by
  have L : Lib.bitLen (n - 3).toNat = 8 := bitLen_of _ _ (by omega) (by omega) (by omega) (by omega)
  have m : bits .and .i64 (n - 3) 31 = (n - 3) % 32 := and_low (n - 3) 5 (by omega) (by omega) (by omega)
  have h3 : (n == 258) = false := by simp; omega
  have h4 : decide (n = 258) = false := by simp; omega
  go_enter Tryd.func18, Tryd.ntmps18
  go_wp2_with (go_at_call 20; refine (Tryd.bits_Len _ _ (by omega) (by omega)).mono ?_; rintro e w1 ⟨rfl, rfl⟩; rw [L])
  exact bodyPost_ret (v := part (277 + (n - 3) / 32) 5 ((n - 3) % 32) true) (by simp [results, Tryd.results18, go_sem]) rfl ⟨rfl, (Below.refl _ _).alloc (Nat.le_refl _) _⟩
theorem length_low (n : Int) (w : World) (h : n < 3) (h0 : -9223372036854775808 ≤ n) :
    Calls Tryd.prog 18 #[.int .i64 n] w fun e w' => e = .returned (part 0 0 0 false) ∧ Below w.heap.size w w' := by
  go_enter Tryd.func18, Tryd.ntmps18
  go_wp2_with (fail)
  exact bodyPost_ret (v := part 0 0 0 false) (by simp [results, Tryd.results18, go_sem]) rfl ⟨rfl, (Below.refl _ _).alloc (Nat.le_refl _) _⟩
theorem length_high (n : Int) (w : World) (h : 258 < n) :
    Calls Tryd.prog 18 #[.int .i64 n] w fun e w' => e = .returned (part 0 0 0 false) ∧ Below w.heap.size w w' := by
  go_enter Tryd.func18, Tryd.ntmps18
  go_wp2_with (fail)
  exact bodyPost_ret (v := part 0 0 0 false) (by simp [results, Tryd.results18, go_sem]) rfl ⟨rfl, (Below.refl _ _).alloc (Nat.le_refl _) _⟩
theorem length_top (n : Int) (w : World) (h : n = 258) :
    Calls Tryd.prog 18 #[.int .i64 n] w fun e w' => e = .returned (part 285 0 0 true) ∧ Below w.heap.size w w' := by
  subst h
  go_enter Tryd.func18, Tryd.ntmps18
  go_wp2_with (fail)
  exact bodyPost_ret (v := part 285 0 0 true) (by simp [results, Tryd.results18, go_sem]) rfl ⟨rfl, (Below.refl _ _).alloc (Nat.le_refl _) _⟩
theorem length_few (n : Int) (w : World) (h : 3 ≤ n) (h1 : n < 7) :
    Calls Tryd.prog 18 #[.int .i64 n] w fun e w' => e = .returned (part (257 + n - 3) 0 0 true) ∧ Below w.heap.size w w' := by
  have h3 : (n == 258) = false := by simp; omega
  have h4 : decide (n = 258) = false := by simp; omega
  go_enter Tryd.func18, Tryd.ntmps18
  go_wp2_with (fail)
  exact bodyPost_ret (v := part (257 + n - 3) 0 0 true) (by simp [results, Tryd.results18, go_sem]) rfl ⟨rfl, (Below.refl _ _).alloc (Nat.le_refl _) _⟩
theorem cells_at (w : World) (l : List Int) (b : Nat) (h : ∀ i v, (l.map (Value.int .i64))[i]? = some v → w.cell? ⟨b, 0 + i, none⟩ = some v) (i : Nat) (hi : i < l.length) : w.cell? ⟨b, i, none⟩ = some (.int .i64 (l.getD i 0)) := by
  have := h i (.int .i64 (l.getD i 0)) (by rw [List.getElem?_map, List.getElem?_eq_getElem hi, List.getD_eq_getElem?_getD, List.getElem?_eq_getElem hi]; rfl)
  simpa using this
theorem lengths_call (w : World) : Calls Tryd.prog 7 #[] w fun e w' => e = .returned (.tuple #[.slice (some ⟨w.heap.size, 0, none⟩) 29 29, .slice (some ⟨w.heap.size + 1, 0, none⟩) 29 29]) ∧ w' = (w.alloc (.cells #[.int .i64 3, .int .i64 4, .int .i64 5, .int .i64 6, .int .i64 7, .int .i64 8, .int .i64 9, .int .i64 10, .int .i64 11, .int .i64 13, .int .i64 15, .int .i64 17, .int .i64 19, .int .i64 23, .int .i64 27, .int .i64 31, .int .i64 35, .int .i64 43, .int .i64 51, .int .i64 59, .int .i64 67, .int .i64 83, .int .i64 99, .int .i64 115, .int .i64 131, .int .i64 163, .int .i64 195, .int .i64 227, .int .i64 258] 3)).alloc (.cells #[.int .i64 0, .int .i64 0, .int .i64 0, .int .i64 0, .int .i64 0, .int .i64 0, .int .i64 0, .int .i64 0, .int .i64 1, .int .i64 1, .int .i64 1, .int .i64 1, .int .i64 2, .int .i64 2, .int .i64 2, .int .i64 2, .int .i64 3, .int .i64 3, .int .i64 3, .int .i64 3, .int .i64 4, .int .i64 4, .int .i64 4, .int .i64 4, .int .i64 5, .int .i64 5, .int .i64 5, .int .i64 5, .int .i64 0] 3) := by
  go_enter Tryd.func7, Tryd.ntmps7
  go_wp2
  exact bodyPost_ret (v := .tuple #[.slice (some ⟨w.heap.size, 0, none⟩) 29 29, .slice (some ⟨w.heap.size + 1, 0, none⟩) 29 29]) (by simp [results, Tryd.results7, go_sem]) rfl ⟨rfl, rfl⟩
theorem dists_call (w : World) : Calls Tryd.prog 8 #[] w fun e w' => e = .returned (.tuple #[.slice (some ⟨w.heap.size, 0, none⟩) 30 30, .slice (some ⟨w.heap.size + 1, 0, none⟩) 30 30]) ∧ w' = (w.alloc (.cells #[.int .i64 1, .int .i64 2, .int .i64 3, .int .i64 4, .int .i64 5, .int .i64 7, .int .i64 9, .int .i64 13, .int .i64 17, .int .i64 25, .int .i64 33, .int .i64 49, .int .i64 65, .int .i64 97, .int .i64 129, .int .i64 193, .int .i64 257, .int .i64 385, .int .i64 513, .int .i64 769, .int .i64 1025, .int .i64 1537, .int .i64 2049, .int .i64 3073, .int .i64 4097, .int .i64 6145, .int .i64 8193, .int .i64 12289, .int .i64 16385, .int .i64 24577] 3)).alloc (.cells #[.int .i64 0, .int .i64 0, .int .i64 0, .int .i64 0, .int .i64 1, .int .i64 1, .int .i64 2, .int .i64 2, .int .i64 3, .int .i64 3, .int .i64 4, .int .i64 4, .int .i64 5, .int .i64 5, .int .i64 6, .int .i64 6, .int .i64 7, .int .i64 7, .int .i64 8, .int .i64 8, .int .i64 9, .int .i64 9, .int .i64 10, .int .i64 10, .int .i64 11, .int .i64 11, .int .i64 12, .int .i64 12, .int .i64 13, .int .i64 13] 3) := by
  go_enter Tryd.func8, Tryd.ntmps8
  go_wp2
  exact bodyPost_ret (v := .tuple #[.slice (some ⟨w.heap.size, 0, none⟩) 30 30, .slice (some ⟨w.heap.size + 1, 0, none⟩) 30 30]) (by simp [results, Tryd.results8, go_sem]) rfl ⟨rfl, rfl⟩
end Go.Proofs.YtgncenladhempaaDoor
