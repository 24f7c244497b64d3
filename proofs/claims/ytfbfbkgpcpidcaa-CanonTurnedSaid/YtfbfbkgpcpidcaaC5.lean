/- Bits the other way round, and the page's. -/
import Derived.Test.YtfbfbkgpcpidcaaC4
import Derived.Lib.ItoaNum
namespace Go.Proofs.Ytfbfbkgpcpidcaa
open Go.RowKit

/-- The lowest k bits the other way round. -/
def revN (v : Nat) : Nat → Nat
  | 0 => 0
  | k + 1 => revN v k * 2 + v / 2 ^ k % 2
theorem revN_lt (v k : Nat) : revN v k < 2 ^ k := by
  induction k with
  | zero => simp [revN]
  | succ k ih =>
    rw [revN, Nat.pow_succ]
    omega
theorem revN_bit (v k j : Nat) : (revN v k).testBit j = (decide (j < k) && v.testBit (k - 1 - j)) := by
  induction k generalizing j with
  | zero => simp [revN]
  | succ k ih =>
    cases j with
    | zero =>
      rw [revN, Nat.testBit_zero, show (revN v k * 2 + v / 2 ^ k % 2) % 2 = v / 2 ^ k % 2 by omega]
      simp [Nat.testBit_eq_decide_div_mod_eq]
    | succ j =>
      rw [revN, Nat.testBit_succ, show (revN v k * 2 + v / 2 ^ k % 2) / 2 = revN v k by omega, ih]
      by_cases h : j < k
      · simp [h, show k - 1 - j = k - (j + 1) by omega]
      · simp [h]
theorem revN_half (v k d : Nat) : revN v (k + d) / 2 ^ d = revN v k := by
  induction d with
  | zero => simp
  | succ d ih =>
    rw [← Nat.add_assoc, revN, Nat.pow_succ, Nat.mul_comm (2 ^ d), ← Nat.div_div_eq_div_mul, show (revN v (k + d) * 2 + v / 2 ^ (k + d) % 2) / 2 = revN v (k + d) by omega, ih]
theorem revN_twice (v k : Nat) : revN (revN v k) k = v % 2 ^ k := by
  apply Nat.eq_of_testBit_eq
  intro i
  rw [revN_bit, revN_bit, Nat.testBit_mod_two_pow]
  by_cases h : i < k
  · simp [h, show k - 1 - i < k by omega, show k - 1 - (k - 1 - i) = i by omega]
  · simp [h]
def swap (m s x : Nat) : Nat := ((x / 2 ^ s) &&& m) ||| ((x &&& m) * 2 ^ s % 2 ^ 32)
def pi (s i : Nat) : Nat := if i / s % 2 = 0 then i + s else i - s
theorem swap_lt (m s x : Nat) (hm : m < 2 ^ 32) : swap m s x < 2 ^ 32 := Nat.or_lt_two_pow (Nat.and_lt_two_pow _ hm) (Nat.mod_lt _ (Nat.pow_pos (by omega)))
theorem swap_bit (m s x i : Nat) (hi : i < 32) (h1 : ∀ j, j < 32 → m.testBit j = decide (j / s % 2 = 0)) (h2 : ∀ j, j < 32 → s ≤ j → m.testBit (j - s) = decide (¬ j / s % 2 = 0)) (h3 : ∀ j, j < 32 → ¬ s ≤ j → j / s % 2 = 0) : (swap m s x).testBit i = x.testBit (pi s i) := by
  unfold swap pi
  rw [Nat.testBit_or, Nat.testBit_and, Nat.testBit_div_two_pow, Nat.testBit_mod_two_pow, Nat.testBit_mul_two_pow, Nat.testBit_and, h1 i hi]
  by_cases hs : s ≤ i
  · rw [h2 i hi hs]
    by_cases hp : i / s % 2 = 0
    · simp [hi, hs, hp, Nat.add_comm]
    · simp [hi, hs, hp]
  · simp [hi, hs, h3 i hi hs, Nat.add_comm]
theorem swap_int (m s x : Nat) (p : Int) (hp : p = ((2 ^ s : Nat) : Int)) (hm : m < 2 ^ 32) (hx : x < 2 ^ 32) : bits .or .u32 (bits .and .u32 ((x : Int) / p) (m : Nat)) (bits .and .u32 (x : Int) (m : Nat) * p % 4294967296) = ((swap m s x : Nat) : Int) := by
  subst hp
  have h1 : x / 2 ^ s < 2 ^ 32 := Nat.lt_of_le_of_lt (Nat.div_le_self _ _) hx
  have h2 : (x / 2 ^ s) &&& m < 2 ^ 32 := Nat.and_lt_two_pow _ hm
  have h3 : x &&& m < 2 ^ 32 := Nat.and_lt_two_pow _ hm
  rw [show ((x : Int) / ((2 ^ s : Nat) : Int)) = ((x / 2 ^ s : Nat) : Int) from rfl, u32_and_nat _ _ (by omega) (by omega), u32_and_nat _ _ (by omega) (by omega)]
  rw [show (((x &&& m : Nat) : Int) * ((2 ^ s : Nat) : Int) % 4294967296) = (((x &&& m) * 2 ^ s % 2 ^ 32 : Nat) : Int) by rw [← Int.natCast_mul]; rfl, u32_or_nat _ _ (by omega) (by have := Nat.mod_lt ((x &&& m) * 2 ^ s) (show 0 < 2 ^ 32 by omega); omega)]
  rfl
theorem halves_int (x : Nat) (hx : x < 2 ^ 32) : bits .or .u32 ((x : Int) / 65536) ((x : Int) * 65536 % 4294967296) = ((swap 65535 16 x : Nat) : Int) := by
  have h1 : (x : Int) / 65536 = bits .and .u32 ((x : Int) / ((2 ^ 16 : Nat) : Int)) (65535 : Nat) := by
    rw [show ((x : Int) / ((2 ^ 16 : Nat) : Int)) = ((x / 2 ^ 16 : Nat) : Int) from rfl, u32_and_nat _ _ (by omega) (by omega), show (65535 : Nat) = 2 ^ 16 - 1 from rfl, Nat.and_two_pow_sub_one_eq_mod]
    omega
  have h2 : (x : Int) * 65536 % 4294967296 = bits .and .u32 (x : Int) (65535 : Nat) * ((2 ^ 16 : Nat) : Int) % 4294967296 := by
    rw [u32_and_nat _ _ (by omega) (by omega), show (65535 : Nat) = 2 ^ 16 - 1 from rfl, Nat.and_two_pow_sub_one_eq_mod]
    omega
  rw [h1, h2, swap_int 65535 16 x _ rfl (by omega) hx]
def rev32 (x : Nat) : Nat := swap 65535 16 (swap 16711935 8 (swap 252645135 4 (swap 858993459 2 (swap 1431655765 1 x))))
theorem rev32_eq (x : Nat) : rev32 x = revN x 32 := by
  apply Nat.eq_of_testBit_eq
  intro i
  by_cases hi : i < 32
  · have p1 : ∀ i, i < 32 → pi 16 i < 32 := by decide
    have p2 : ∀ i, i < 32 → pi 8 (pi 16 i) < 32 := by decide
    have p3 : ∀ i, i < 32 → pi 4 (pi 8 (pi 16 i)) < 32 := by decide
    have p4 : ∀ i, i < 32 → pi 2 (pi 4 (pi 8 (pi 16 i))) < 32 := by decide
    have p5 : ∀ i, i < 32 → pi 1 (pi 2 (pi 4 (pi 8 (pi 16 i)))) = 31 - i := by decide
    unfold rev32
    rw [swap_bit _ _ _ _ hi (by decide) (by decide) (by decide), swap_bit _ _ _ _ (p1 i hi) (by decide) (by decide) (by decide), swap_bit _ _ _ _ (p2 i hi) (by decide) (by decide) (by decide), swap_bit _ _ _ _ (p3 i hi) (by decide) (by decide) (by decide), swap_bit _ _ _ _ (p4 i hi) (by decide) (by decide) (by decide), p5 i hi, revN_bit]
    simp [hi]
  · have h1 : rev32 x < 2 ^ 32 := swap_lt _ _ _ (by omega)
    have h2 := revN_lt x 32
    rw [Nat.testBit_lt_two_pow (Nat.lt_of_lt_of_le h1 (Nat.pow_le_pow_right (by omega) (by omega))), Nat.testBit_lt_two_pow (Nat.lt_of_lt_of_le h2 (Nat.pow_le_pow_right (by omega) (by omega)))]
theorem rb_any (x : Nat) (w : World) (hx : x < 2 ^ 32) : Calls Try.prog 19 #[.int .u32 x] w fun e w' => e = .returned (.int .u32 (swap 65535 16 (swap 16711935 8 x) : Nat)) ∧ w = w' := by
  have HX := Lib.hid hx
  clear hx
  go_enter Try.func19, Try.ntmps19
  go_wp2
  go_ret
  have h1 := swap_int 16711935 8 x 256 rfl (by omega) HX.out
  have h2 := halves_int (swap 16711935 8 x) (swap_lt _ _ _ (by omega))
  rw [← h2, ← h1]
  exact ⟨rfl, rfl⟩
theorem rv_any (x : Nat) (w : World) (hx : x < 2 ^ 32) : Calls Try.prog 17 #[.int .u32 x] w fun e w' => e = .returned (.int .u32 (revN x 32 : Nat)) ∧ w = w' := by
  have HX := Lib.hid hx
  clear hx
  go_enter Try.func17, Try.ntmps17
  go_wp2_with fail
  have h1 := swap_int 1431655765 1 x 2 rfl (by omega) HX.out
  have h2 := swap_int 858993459 2 (swap 1431655765 1 x) 4 rfl (by omega) (swap_lt _ _ _ (by omega))
  have h3 := swap_int 252645135 4 (swap 858993459 2 (swap 1431655765 1 x)) 16 rfl (by omega) (swap_lt _ _ _ (by omega))
  rw [← h1] at h2
  rw [← h2] at h3
  have h4 := rb_any (swap 252645135 4 (swap 858993459 2 (swap 1431655765 1 x))) w (swap_lt _ _ _ (by omega))
  rw [show swap 65535 16 (swap 16711935 8 (swap 252645135 4 (swap 858993459 2 (swap 1431655765 1 x)))) = revN x 32 from rev32_eq x, ← h3] at h4
  refine h4.mono ?_
  rintro e w1 ⟨rfl, rfl⟩
  clear h1 h2 h3 h4
  go_wp2
  go_ret
  exact ⟨rfl, rfl⟩

abbrev bo (b : Bool) : Value := .bool b
def bitsOf (v k : Nat) : List Bool := (List.range k).map fun i => decide (v / 2 ^ i % 2 = 1)
theorem bitsOf_len (v k : Nat) : (bitsOf v k).length = k := by simp [bitsOf]
theorem bitsOf_succ (v k : Nat) : bitsOf v (k + 1) = bitsOf v k ++ [decide (v / 2 ^ k % 2 = 1)] := by simp [bitsOf, List.range_succ]
theorem info4 : (Try.prog.info? 4).map (fun i => (i.zero, i.size, i.bytes)) = some (some (.bool false), 1, 1) := by kernel_rfl
theorem oneCell_bools {bs : List Bool} : ∀ u ∈ bs.map bo, u.oneCell' = true := by
  intro u hu
  obtain ⟨n, _, rfl⟩ := List.mem_map.1 hu
  rfl
def Rput (w : World) (n : Nat) (bs : List Bool) (e : Ending) (w' : World) : Prop :=
  ∃ A' c', e = .returned (.slice A' n c') ∧ w'.ownsRow w.heap.size 4 1 (.slice A' n c') n (bs.map bo) ∧ Below w.heap.size w w'
set_option maxHeartbeats 1000000 in
theorem rput_any (A : Option Addr) (n c : Nat) (bs : List Bool) (S : Nat → Prop) (v k : Nat) (w : World) (hA : Lst w S 1 A n (bs.map bo)) (hn : n ≤ 1099511627776) (hk : k ≤ 64) (hv : v < 4294967296) :
    Calls Try.prog 18 #[.slice A n c, .int .u32 v, .int .i64 k] w (Rput w (n + k) (bs ++ bitsOf v k)) := by
  obtain ⟨i0, hi, hz0, hz1, hz2⟩ := info_parts info4
  have HA := Lib.hid hA
  clear hA
  go_enter Try.func18, Try.ntmps18
  go_wp2_with (at_builtin; refine wpList_append_list _ rfl (.tmp 9) (.tmp 10) 41 rfl w.heap.size 4 i0 (.bool false) 1 1 Try.underlying41 hi hz0 hz1 hz2 rfl (by decide) (.slice (some ⟨w.heap.size, 0, none⟩) 0 0) 0 [] rfl (World.ownsRow_made w #[] 0 (Nat.le_refl _) (by unfold maxLen; omega) rfl) _ A n c _ rfl (Lst.alloc HA.out _) oneCell_bools (by unfold maxLen; omega) (by omega) (by simp) ?_)
  intro A3 c3 x3 hown3 hgrow3 hat3
  have HW3 := Lib.hid (((Below.refl w.heap.size w).alloc (Nat.le_refl _) (.cells #[] 4)).grown hgrow3 (by simp) (fun g e => by simp [Value.ownBlock] at e; omega))
  have HO3 : Hid (x3.ownsRow w.heap.size 4 1 (.slice A3 n c3) n (bs.map bo)) := Lib.hid (by simpa using hown3)
  clear hown3 hgrow3 hat3
  go_wp2
  go_loopw [1, 7, 8] (fun x o i wr => ∃ (j : Nat) (A2 : Option Addr) (c2 y : Nat), j ≤ k ∧ i = .int .i64 j ∧ x = .int .u32 (y : Nat) ∧ Hid (v / 2 ^ j = y) ∧ y < 4294967296 ∧ o = .slice A2 (n + j) c2 ∧ Hid (wr.ownsRow w.heap.size 4 1 (.slice A2 (n + j) c2) (n + j) ((bs ++ bitsOf v j).map bo)) ∧ Hid (Below w.heap.size w wr)) (fun _ _ i _ => k - (intOf i).toNat)
  case atStart => exact ⟨0, A3, c3, v, Nat.zero_le _, rfl, rfl, Lib.hid (by simp), hv, rfl, Lib.hid (by simpa [bitsOf] using HO3.out), HW3⟩
  case round =>
    obtain ⟨j, A2, c2, y, hj, rfl, rfl, hy, hyb, rfl, hO, hB⟩ := hrel
    by_cases hlt : j < k
    · obtain ⟨b, hb⟩ : ∃ b, decide (y % 2 = 1) = b := ⟨_, rfl⟩
      have hb1 : ((y : Int) % 2 == 1) = b := by
        rw [← hb]
        by_cases h : y % 2 = 1
        · simp [h]; omega
        · simp [h]; omega
      have HV : Hid (bitsOf v (j + 1) = bitsOf v j ++ [b]) := Lib.hid (by rw [bitsOf_succ, hy.out, hb])
      have HY : Hid (v / 2 ^ (j + 1) = y / 2) := Lib.hid (by rw [← hy.out, Nat.pow_succ, Nat.div_div_eq_div_mul])
      obtain ⟨m, hm⟩ : ∃ m, n + j = m := ⟨_, rfl⟩
      rw [hm] at hO ⊢
      have HM := Lib.hid hm
      have hmb : m ≤ 1099511627900 := by omega
      clear hb hy hm
      go_wp2_with (at_builtin; refine wpList_append_list _ rfl (.tmp 17) (.tmp 21) 41 rfl w.heap.size 4 i0 (.bool false) 1 1 Try.underlying41 hi hz0 hz1 hz2 rfl (by decide) _ m _ rfl (hO.out.alloc _) _ (some ⟨wr.heap.size, 0, none⟩) 1 1 [.bool b] rfl (Lst.new wr 4 #[.bool b] 1 rfl rfl) (by simp [Value.oneCell']) (by unfold maxLen; omega) (by omega) (by have := hB.out.size; simp; omega) ?_)
      intro A4 c4 x4 hown4 hgrow4 hat4
      have HO4 : Hid (x4.ownsRow w.heap.size 4 1 (.slice A4 (n + (j + 1)) c4) (n + (j + 1)) ((bs ++ bitsOf v (j + 1)).map bo)) := by
        rw [HV.out, List.map_append, List.map_append, List.map_singleton, show n + (j + 1) = m + 1 by have := HM.out; omega]
        exact Lib.hid hown4
      have HW4 := Lib.hid ((hB.out.alloc hB.out.size _).grown hgrow4 (by have := hB.out.size; simp; omega) (fun g e => (hO.out.lt g e).1))
      clear hown4 hgrow4 hat4 HV
      go_wp2
      exact ⟨⟨j + 1, A4, c4, y / 2, by omega, by go_num, by simp, HY, by omega, by rw [show n + (j + 1) = m + 1 by have := HM.out; omega], HO4, HW4⟩, by simp [intOf]; omega⟩
    · obtain rfl : j = k := by omega
      go_wp2
      go_ret
      exact ⟨A2, c2, rfl, hO.out, hB.out⟩

def clampK (n : Int) : Nat := (min (max n 0) 32).toNat
theorem rev_any (x : Nat) (n : Int) (w : World) (hx : x < 2 ^ 32) : Calls Try.prog 15 #[.int .u32 x, .int .i64 n] w fun e w' => e = .returned (.int .u32 (revN x (clampK n) : Nat)) ∧ w = w' := by
  obtain ⟨k, hk⟩ : ∃ k, clampK n = k := ⟨_, rfl⟩
  obtain ⟨m, hm⟩ : ∃ m : Nat, max n 0 = m := ⟨(max n 0).toNat, by omega⟩
  have h1 : (if n < 0 then (0 : Int) else n) = m := by rw [← hm]; split <;> omega
  have h2 : (if 32 < (m : Int) then (32 : Int) else m) = k := by rw [← hk]; unfold clampK; rw [hm]; split <;> omega
  have hk32 : k ≤ 32 := by have : clampK n = k := hk; unfold clampK at this; omega
  clear hm
  rw [hk]
  have HX := Lib.hid hx
  have HK := Lib.hid hk
  clear hx hk
  go_enter Try.func15, Try.ntmps15
  go_wp2_with fail
  refine (rv_any x w HX.out).mono ?_
  rintro e w1 ⟨rfl, rfl⟩
  go_wp2
  go_ret
  refine ⟨?_, rfl⟩
  have h := revN_half x k (32 - k)
  rw [show k + (32 - k) = 32 by omega] at h
  congr 2
  rw [← h, Int.natCast_ediv]
  congr 1
theorem bit_at {w : World} {base c n : Nat} {A : Option Addr} {bs : List Bool} (h : w.ownsRow base 4 1 (.slice A n c) n (bs.map bo)) {j : Nat} (hj : j < n) : ∃ b off, A = some ⟨b, off, none⟩ ∧ w.cell? ⟨b, off + j, none⟩ = some (.bool (bs.getD j false)) := by
  have hL := Lst.of_own h
  have hl : bs.length = n := by have := hL.len; simpa using this
  obtain ⟨b, off, e, _, _, hc⟩ := hL.2 (by omega)
  refine ⟨b, off, e, hc j _ ?_⟩
  rw [List.getElem?_map, List.getElem?_eq_getElem (by omega), List.getD_eq_getElem?_getD, List.getElem?_eq_getElem (by omega)]
  rfl
theorem bitsOf_get (v k j : Nat) (h : j < k) : (bitsOf v k).getD j false = decide (v / 2 ^ j % 2 = 1) := by
  rw [List.getD_eq_getElem?_getD, List.getElem?_eq_getElem (by simpa [bitsOf] using h)]
  simp [bitsOf]
theorem revN_le (x j : Nat) (h : j < 32) : revN x j < 2147483648 := Nat.lt_of_lt_of_le (revN_lt x j) (show 2 ^ j ≤ 2 ^ 31 from Nat.pow_le_pow_right (by omega) (by omega))
set_option maxHeartbeats 1000000 in
theorem rref_any (x : Nat) (n : Int) (w : World) (hx : x < 2 ^ 32) : Calls Try.prog 16 #[.int .u32 x, .int .i64 n] w fun e w' => e = .returned (.int .u32 (revN x (clampK n) : Nat)) ∧ Below w.heap.size w w' := by
  obtain ⟨k, hk⟩ : ∃ k, clampK n = k := ⟨_, rfl⟩
  obtain ⟨m, hm⟩ : ∃ m : Nat, max n 0 = m := ⟨(max n 0).toNat, by omega⟩
  have h1 : (if n < 0 then (0 : Int) else n) = m := by rw [← hm]; split <;> omega
  have h2 : (if 32 < (m : Int) then (32 : Int) else m) = k := by rw [← hk]; unfold clampK; rw [hm]; split <;> omega
  have hk32 : k ≤ 32 := by have : clampK n = k := hk; unfold clampK at this; omega
  rw [hk]
  have HX := Lib.hid hx
  clear hx hk hm
  go_enter Try.func16, Try.ntmps16
  go_wp2_with fail
  refine (rput_any none 0 0 [] (fun _ => True) x k w (Lst.empty _ _ _ _) (by omega) (by omega) (by have := HX.out; omega)).mono ?_
  rintro e w1 ⟨A1, c1, rfl, hO, hB⟩
  rw [Nat.zero_add, List.nil_append] at hO
  have HO := Lib.hid hO
  have HB := Lib.hid hB
  clear hO hB h1 h2
  go_wp2
  go_loopw [6, 7] (fun o i wr => ∃ (j y : Nat), j ≤ k ∧ i = .int .i64 j ∧ Hid (revN x j = y) ∧ o = .int .u32 y ∧ wr = w1) (fun _ i _ => k - (intOf i).toNat)
  case atStart => exact ⟨0, 0, Nat.zero_le _, rfl, Lib.hid rfl, rfl, rfl⟩
  case round =>
    obtain ⟨j, y, hj, rfl, hy, rfl, rfl⟩ := hrel
    by_cases hlt : j < k
    · obtain ⟨b, off, rfl, hc⟩ := bit_at HO.out hlt
      rw [bitsOf_get x k j hlt] at hc
      obtain ⟨q, hq⟩ : ∃ q, decide (x / 2 ^ j % 2 = 1) = q := ⟨_, rfl⟩
      rw [hq] at hc
      have hyb : y < 2147483648 := by rw [← hy.out]; exact revN_le x j (by omega)
      have HS : Hid (revN x (j + 1) = y * 2 + x / 2 ^ j % 2) := Lib.hid (by rw [revN, hy.out])
      cases q with
      | true =>
        have hb : Hid (x / 2 ^ j % 2 = 1) := Lib.hid (of_decide_eq_true hq)
        clear hq
        go_wp2
        exact ⟨⟨j + 1, y * 2 + 1, by omega, by go_num, Lib.hid (by rw [HS.out, hb.out]), by go_num, trivial⟩, by simp [intOf]; omega⟩
      | false =>
        have hb : Hid (x / 2 ^ j % 2 = 0) := Lib.hid (by have := of_decide_eq_false hq; omega)
        clear hq
        go_wp2
        exact ⟨⟨j + 1, y * 2, by omega, by go_num, Lib.hid (by rw [HS.out, hb.out]; omega), by go_num, trivial⟩, by simp [intOf]; omega⟩
    · obtain rfl : j = k := by omega
      go_wp2
      go_ret
      rw [hy.out]
      exact ⟨rfl, HB.out⟩
end Go.Proofs.Ytfbfbkgpcpidcaa
