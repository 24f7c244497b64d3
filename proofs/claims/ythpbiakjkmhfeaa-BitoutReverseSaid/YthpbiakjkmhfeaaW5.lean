/- Reverse, and the page's. -/
import Derived.Test.YthpbiakjkmhfeaaW4
namespace Go.Proofs.Ythpbiakjkmhfeaa
open Go.RowKit

def clampK (n : Int) : Nat := (min (max n 0) 32).toNat
theorem rev_any (x : Nat) (n : Int) (w : World) (hx : x < 2 ^ 32) : Calls Try.prog 19 #[.int .u32 x, .int .i64 n] w fun e w' => e = .returned (.int .u32 (revN x (clampK n) : Nat)) ∧ w = w' := by
  obtain ⟨k, hk⟩ : ∃ k, clampK n = k := ⟨_, rfl⟩
  obtain ⟨m, hm⟩ : ∃ m : Nat, max n 0 = m := ⟨(max n 0).toNat, by omega⟩
  have h1 : (if n < 0 then (0 : Int) else n) = m := by rw [← hm]; split <;> omega
  have h2 : (if 32 < (m : Int) then (32 : Int) else m) = k := by rw [← hk]; unfold clampK; rw [hm]; split <;> omega
  have hk32 : k ≤ 32 := by have : clampK n = k := hk; unfold clampK at this; omega
  clear hm
  rw [hk]
  have HX := Lib.hid hx
  have HK := Lib.hid hk
  clear hx hk
  go_enter Try.func19, Try.ntmps19
  go_wp2_with fail
  refine (rv_any x w HX.out).mono ?_
  rintro e w1 ⟨rfl, rfl⟩
  go_wp2
  go_ret
  refine ⟨?_, rfl⟩
  have h := revN_half x k (32 - k)
  rw [show k + (32 - k) = 32 by omega] at h
  congr 2
  rw [← h, Int.natCast_ediv]
  congr 1
theorem bit_at {w : World} {base c n : Nat} {A : Option Addr} {bs : List Bool} (h : w.ownsRow base 4 1 (.slice A n c) n (bs.map bo)) {j : Nat} (hj : j < n) : ∃ b off, A = some ⟨b, off, none⟩ ∧ w.cell? ⟨b, off + j, none⟩ = some (.bool (bs.getD j false)) := by
  have hL := Lst.of_own h
  have hl : bs.length = n := by have := hL.len; simpa using this
  obtain ⟨b, off, e, _, _, hc⟩ := hL.2 (by omega)
  refine ⟨b, off, e, hc j _ ?_⟩
  rw [List.getElem?_map, List.getElem?_eq_getElem (by omega), List.getD_eq_getElem?_getD, List.getElem?_eq_getElem (by omega)]
  rfl
theorem bitsOf_get (v k j : Nat) (h : j < k) : (bitsOf v k).getD j false = decide (v / 2 ^ j % 2 = 1) := by
  rw [List.getD_eq_getElem?_getD, List.getElem?_eq_getElem (by simpa [bitsOf] using h)]
  simp [bitsOf]
theorem revN_le (x j : Nat) (h : j < 32) : revN x j < 2147483648 := Nat.lt_of_lt_of_le (revN_lt x j) (show 2 ^ j ≤ 2 ^ 31 from Nat.pow_le_pow_right (by omega) (by omega))
set_option maxHeartbeats 1000000 in
theorem rref_any (x : Nat) (n : Int) (w : World) (hx : x < 2 ^ 32) : Calls Try.prog 20 #[.int .u32 x, .int .i64 n] w fun e w' => e = .returned (.int .u32 (revN x (clampK n) : Nat)) ∧ Below w.heap.size w w' := by
  obtain ⟨k, hk⟩ : ∃ k, clampK n = k := ⟨_, rfl⟩
  obtain ⟨m, hm⟩ : ∃ m : Nat, max n 0 = m := ⟨(max n 0).toNat, by omega⟩
  have h1 : (if n < 0 then (0 : Int) else n) = m := by rw [← hm]; split <;> omega
  have h2 : (if 32 < (m : Int) then (32 : Int) else m) = k := by rw [← hk]; unfold clampK; rw [hm]; split <;> omega
  have hk32 : k ≤ 32 := by have : clampK n = k := hk; unfold clampK at this; omega
  rw [hk]
  have HX := Lib.hid hx
  clear hx hk hm
  go_enter Try.func20, Try.ntmps20
  go_wp2_with fail
  refine (rput_any none 0 0 [] (fun _ => True) x k w (Lst.empty _ _ _ _) (by omega) (by omega) (by have := HX.out; omega)).mono ?_
  rintro e w1 ⟨A1, c1, rfl, hO, hB⟩
  rw [Nat.zero_add, List.nil_append] at hO
  have HO := Lib.hid hO
  have HB := Lib.hid hB
  clear hO hB h1 h2
  go_wp2
  go_loopw [6, 7] (fun o i wr => ∃ (j y : Nat), j ≤ k ∧ i = .int .i64 j ∧ Hid (revN x j = y) ∧ o = .int .u32 y ∧ wr = w1) (fun _ i _ => k - (intOf i).toNat)
  case atStart => exact ⟨0, 0, Nat.zero_le _, rfl, Lib.hid rfl, rfl, rfl⟩
  case round =>
    obtain ⟨j, y, hj, rfl, hy, rfl, rfl⟩ := hrel
    by_cases hlt : j < k
    · obtain ⟨b, off, rfl, hc⟩ := bit_at HO.out hlt
      rw [bitsOf_get x k j hlt] at hc
      obtain ⟨q, hq⟩ : ∃ q, decide (x / 2 ^ j % 2 = 1) = q := ⟨_, rfl⟩
      rw [hq] at hc
      have hyb : y < 2147483648 := by rw [← hy.out]; exact revN_le x j (by omega)
      have HS : Hid (revN x (j + 1) = y * 2 + x / 2 ^ j % 2) := Lib.hid (by rw [revN, hy.out])
      cases q with
      | true =>
        have hb : Hid (x / 2 ^ j % 2 = 1) := Lib.hid (of_decide_eq_true hq)
        clear hq
        go_wp2
        exact ⟨⟨j + 1, y * 2 + 1, by omega, by go_num, Lib.hid (by rw [HS.out, hb.out]), by go_num, trivial⟩, by simp [intOf]; omega⟩
      | false =>
        have hb : Hid (x / 2 ^ j % 2 = 0) := Lib.hid (by have := of_decide_eq_false hq; omega)
        clear hq
        go_wp2
        exact ⟨⟨j + 1, y * 2, by omega, by go_num, Lib.hid (by rw [HS.out, hb.out]; omega), by go_num, trivial⟩, by simp [intOf]; omega⟩
    · obtain rfl : j = k := by omega
      go_wp2
      go_ret
      rw [hy.out]
      exact ⟨rfl, HB.out⟩
end Go.Proofs.Ythpbiakjkmhfeaa
