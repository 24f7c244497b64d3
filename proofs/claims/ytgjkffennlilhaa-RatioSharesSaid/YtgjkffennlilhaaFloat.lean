/- Floats of 64 bits in one order: each that is a number has a whole number as its key. -/
import Derived.WalkKit
import Derived.WalkLawsBesides
namespace Go
open Ieee

def bigNat (n : Nat) : Nat := 2 ^ n
def bigKey : Int := ((bigNat 2100 : Nat) : Int)
def dkey : Datum → Int
  | .number s m i => signed s m (i + 1074).toNat
  | .infinity s => if s then -bigKey else bigKey
  | .nan .. => 0
def fkey (x : Nat) : Int := dkey (double.read x)
def fnan (x : Nat) : Bool := (double.read x).isNaN
theorem double_least : double.leastPlace = -1074 := by decide
theorem double_binade : double.binade = 4503599627370496 := by decide
theorem double_inf : double.infRung = 9218868437227405312 := by decide
theorem double_sign : double.signWeight = 9223372036854775808 := by decide
theorem read_shape (x : Nat) : (∃ s m i, double.read x = .number s m i ∧ -1074 ≤ i ∧ i ≤ 972 ∧ m < 9007199254740992 ∧ (m = 0 → x % 9223372036854775808 = 0)) ∨ (∃ s, double.read x = .infinity s) ∨ (∃ s t, double.read x = .nan s t) := by
  unfold Format.read
  simp only [double_least, double_binade, double_inf, double_sign]
  by_cases h1 : x % 9223372036854775808 < 4503599627370496
  · rw [if_pos h1]
    exact .inl ⟨_, _, _, rfl, by omega, by omega, by omega, fun h => h⟩
  · rw [if_neg h1]
    by_cases h2 : x % 9223372036854775808 < 9218868437227405312
    · rw [if_pos h2]
      refine .inl ⟨_, _, _, rfl, by omega, ?_, by omega, fun h => by omega⟩
      omega
    · rw [if_neg h2]
      by_cases h3 : x % 9223372036854775808 = 9218868437227405312
      · rw [if_pos h3]
        exact .inr (.inl ⟨_, rfl⟩)
      · rw [if_neg h3]
        exact .inr (.inr ⟨_, _, rfl⟩)
theorem signed_add (s : Bool) (m a d : Nat) : signed s m (a + d) = signed s m a * (2 ^ d : Nat) := by
  unfold signed
  have e : m <<< (a + d) = (m <<< a) * 2 ^ d := by rw [Nat.shiftLeft_eq, Nat.shiftLeft_eq, Nat.pow_add, Nat.mul_assoc]
  rw [e]
  cases s
  · simp
  · simp [Int.neg_mul]
theorem compare_mul (a b : Int) (k : Nat) (hk : 0 < k) : compare (a * (k : Int)) (b * (k : Int)) = compare a b := by
  have hk' : (0 : Int) < k := by omega
  rcases Int.lt_trichotomy a b with h | h | h
  · have h2 : a * (k : Int) < b * (k : Int) := Int.mul_lt_mul_of_pos_right h hk'
    rw [Int.compare_eq_lt.2 h, Int.compare_eq_lt.2 h2]
  · subst h
    rw [Int.compare_eq_eq.2 rfl, Int.compare_eq_eq.2 rfl]
  · have h2 : b * (k : Int) < a * (k : Int) := Int.mul_lt_mul_of_pos_right h hk'
    rw [Int.compare_eq_gt.2 h, Int.compare_eq_gt.2 h2]
theorem pow_mul_le (a b c : Nat) (h : a + b ≤ c) : 2 ^ a * 2 ^ b ≤ 2 ^ c := by
  rw [← Nat.pow_add]
  exact Nat.pow_le_pow_right (by decide) h
theorem signed_bound (s : Bool) (m : Nat) (i : Int) (hm : m < 9007199254740992) (hi : i ≤ 972) : -bigKey < signed s m (i + 1074).toNat ∧ signed s m (i + 1074).toNat < bigKey := by
  have h1 : (i + 1074).toNat ≤ 2046 := by omega
  have h2 : m <<< (i + 1074).toNat < bigNat 2100 := by
    unfold bigNat
    rw [Nat.shiftLeft_eq]
    have h3 := Nat.pow_le_pow_right (show 0 < 2 by decide) h1
    have h4 := Nat.mul_le_mul_left m h3
    have hm' : m < 2 ^ 53 := hm
    have h5 := Nat.mul_lt_mul_of_pos_right hm' (Nat.two_pow_pos 2046)
    have h6 := pow_mul_le 53 2046 2100 (by decide)
    exact Nat.lt_of_le_of_lt h4 (Nat.lt_of_lt_of_le h5 h6)
  have h7 : ((m <<< (i + 1074).toNat : Nat) : Int) < bigKey := by
    unfold bigKey
    exact Int.ofNat_lt.2 h2
  have h8 : (0 : Int) ≤ ((m <<< (i + 1074).toNat : Nat) : Int) := Int.natCast_nonneg _
  unfold signed
  clear h2
  generalize m <<< (i + 1074).toNat = z at h7 h8 ⊢
  cases s
  · show -bigKey < (z : Int) ∧ (z : Int) < bigKey
    omega
  · show -bigKey < -(z : Int) ∧ -(z : Int) < bigKey
    omega
theorem big_pos : (0 : Int) < bigKey := by
  unfold bigKey bigNat
  exact Int.ofNat_lt.2 (Nat.two_pow_pos 2100)
theorem ford_key (x y : Nat) (hx : fnan x = false) (hy : fnan y = false) : double.order x y = some (compare (fkey x) (fkey y)) := by
  have hb := big_pos
  unfold Format.order fkey
  unfold fnan at hx hy
  rcases read_shape x with ⟨s, m, i, ex, i1, i2, i3, -⟩ | ⟨s, ex⟩ | ⟨s, t, ex⟩
  · rcases read_shape y with ⟨t, n, j, ey, j1, j2, j3, -⟩ | ⟨t, ey⟩ | ⟨t, u, ey⟩
    · rw [ex, ey]
      show some (compare (signed s m (i - min i j).toNat) (signed t n (j - min i j).toNat)) = some (compare (signed s m (i + 1074).toNat) (signed t n (j + 1074).toNat))
      have e1 : (i + 1074).toNat = (i - min i j).toNat + (min i j + 1074).toNat := by omega
      have e2 : (j + 1074).toNat = (j - min i j).toNat + (min i j + 1074).toNat := by omega
      rw [e1, e2, signed_add, signed_add, compare_mul _ _ _ (Nat.two_pow_pos _)]
    · rw [ex, ey]
      have h := signed_bound s m i i3 i2
      show some (if t = true then Ordering.gt else Ordering.lt) = some (compare (signed s m (i + 1074).toNat) (if t = true then -bigKey else bigKey))
      cases t
      · show some Ordering.lt = some (compare (signed s m (i + 1074).toNat) bigKey)
        rw [Int.compare_eq_lt.2 h.2]
      · show some Ordering.gt = some (compare (signed s m (i + 1074).toNat) (-bigKey))
        rw [Int.compare_eq_gt.2 h.1]
    · rw [ey] at hy; cases hy
  · rcases read_shape y with ⟨t, n, j, ey, j1, j2, j3, -⟩ | ⟨t, ey⟩ | ⟨t, u, ey⟩
    · rw [ex, ey]
      have h := signed_bound t n j j3 j2
      show some (if s = true then Ordering.lt else Ordering.gt) = some (compare (if s = true then -bigKey else bigKey) (signed t n (j + 1074).toNat))
      cases s
      · show some Ordering.gt = some (compare bigKey (signed t n (j + 1074).toNat))
        rw [Int.compare_eq_gt.2 h.2]
      · show some Ordering.lt = some (compare (-bigKey) (signed t n (j + 1074).toNat))
        rw [Int.compare_eq_lt.2 h.1]
    · rw [ex, ey]
      show some (compare t.toNat s.toNat) = some (compare (if s = true then -bigKey else bigKey) (if t = true then -bigKey else bigKey))
      cases s <;> cases t <;> simp
      · rw [Int.compare_eq_gt.2 (by omega)]; rfl
      · rw [Int.compare_eq_lt.2 (by omega)]; rfl
    · rw [ey] at hy; cases hy
  · rw [ex] at hx; cases hx
theorem ford_nan (x y : Nat) (h : fnan x = true ∨ fnan y = true) : double.order x y = none := by
  unfold Format.order
  unfold fnan at h
  rcases h with h | h
  · cases hx : double.read x <;> rw [hx] at h <;> first | (cases h; done) | skip
    cases double.read y <;> rfl
  · cases hy : double.read y <;> rw [hy] at h <;> first | (cases h; done) | skip
    cases double.read x <;> rfl
theorem zero_of_key (x : Nat) (hw : x < 18446744073709551616) (hn : fnan x = false) (hk : fkey x = 0) : x = 0 ∨ x = 9223372036854775808 := by
  have hb := big_pos
  unfold fnan at hn
  unfold fkey at hk
  rcases read_shape x with ⟨s, m, i, ex, -, -, -, h0⟩ | ⟨s, ex⟩ | ⟨s, t, ex⟩
  · rw [ex] at hk
    have hm : m = 0 := by
      have h1 : signed s m (i + 1074).toNat = 0 := hk
      unfold signed at h1
      rw [Nat.shiftLeft_eq] at h1
      have h2 : m * 2 ^ (i + 1074).toNat = 0 := by
        cases s
        · have h3 : ((m * 2 ^ (i + 1074).toNat : Nat) : Int) = 0 := h1
          generalize m * 2 ^ (i + 1074).toNat = z at h3 ⊢
          omega
        · have h3 : -((m * 2 ^ (i + 1074).toNat : Nat) : Int) = 0 := h1
          generalize m * 2 ^ (i + 1074).toNat = z at h3 ⊢
          omega
      rcases Nat.mul_eq_zero.1 h2 with h3 | h3
      · exact h3
      · exact absurd h3 (Nat.ne_of_gt (Nat.two_pow_pos _))
    have := h0 hm
    omega
  · rw [ex] at hk
    have h1 : (if s = true then -bigKey else bigKey) = 0 := hk
    cases s
    · have h2 : bigKey = 0 := h1
      omega
    · have h2 : -bigKey = 0 := h1
      omega
  · rw [ex] at hn; cases hn
theorem fkey_zero : fkey 0 = 0 ∧ fnan 0 = false := by decide
def flt (x y : Nat) : Bool := !fnan x && (!fnan y && decide (fkey x < fkey y))
theorem order_lt (x y : Nat) : (FloatKind.f64.format.order x y == some Ordering.lt) = flt x y := by
  unfold flt
  change (double.order x y == some Ordering.lt) = _
  cases hx : fnan x
  · cases hy : fnan y
    · rw [ford_key x y hx hy]
      rcases Int.lt_trichotomy (fkey x) (fkey y) with h | h | h
      · rw [Int.compare_eq_lt.2 h]; simp [h]
      · rw [Int.compare_eq_eq.2 h]; simp [h]
      · rw [Int.compare_eq_gt.2 h]; simp; omega
    · rw [ford_nan x y (.inr hy)]; rfl
  · rw [ford_nan x y (.inl hx)]; rfl
theorem order_gt (x y : Nat) : (FloatKind.f64.format.order x y == some Ordering.gt) = flt y x := by
  unfold flt
  change (double.order x y == some Ordering.gt) = _
  cases hx : fnan x
  · cases hy : fnan y
    · rw [ford_key x y hx hy]
      rcases Int.lt_trichotomy (fkey x) (fkey y) with h | h | h
      · rw [Int.compare_eq_lt.2 h]; simp; omega
      · rw [Int.compare_eq_eq.2 h]; simp [h]
      · rw [Int.compare_eq_gt.2 h]; simp [h]
    · rw [ford_nan x y (.inr hy)]; rfl
  · rw [ford_nan x y (.inl hx)]; simp
theorem order_ne (x : Nat) : (FloatKind.f64.format.order x x != some Ordering.eq) = fnan x := by
  change (double.order x x != some Ordering.eq) = _
  cases hx : fnan x
  · rw [ford_key x x hx hx, Int.compare_eq_eq.2 rfl]; rfl
  · rw [ford_nan x x (.inl hx)]; rfl
def fneg (x : Nat) : Nat := x ^^^ 2 ^ 63
theorem fneg_parts (x : Nat) (hx : x < 18446744073709551616) : fneg x % 9223372036854775808 = x % 9223372036854775808 ∧ fneg x / 9223372036854775808 % 2 = (x / 9223372036854775808 + 1) % 2 ∧ fneg x < 18446744073709551616 := by
  have h1 : fneg x % 2 ^ 63 = x % 2 ^ 63 := by
    unfold fneg
    rw [Nat.xor_mod_two_pow, Nat.mod_self, Nat.xor_zero]
  have h2 : fneg x / 2 ^ 63 = (x / 2 ^ 63) ^^^ 1 := by
    unfold fneg
    rw [Nat.xor_div_two_pow, Nat.div_self (Nat.two_pow_pos 63)]
  rw [show (2 : Nat) ^ 63 = 9223372036854775808 from rfl] at h1 h2
  have h3 : x / 9223372036854775808 = 0 ∨ x / 9223372036854775808 = 1 := by omega
  rcases h3 with h3 | h3
  · rw [h3, show (0 : Nat) ^^^ 1 = 1 from rfl] at h2
    omega
  · rw [h3, show (1 : Nat) ^^^ 1 = 0 from rfl] at h2
    omega
theorem read_fneg (x : Nat) (hx : x < 18446744073709551616) : double.read (fneg x) = (double.read x).opposite := by
  obtain ⟨h1, h2, -⟩ := fneg_parts x hx
  have hs : (fneg x / 9223372036854775808 % 2 == 1) = !(x / 9223372036854775808 % 2 == 1) := by
    rw [h2]
    rcases Nat.mod_two_eq_zero_or_one (x / 9223372036854775808) with h | h
    · rw [Nat.add_mod, h]; rfl
    · rw [Nat.add_mod, h]; rfl
  unfold Format.read
  simp only [double_least, double_binade, double_inf, double_sign, h1, hs]
  split
  · rfl
  · split
    · rfl
    · split <;> rfl
theorem fnan_fneg (x : Nat) (hx : x < 18446744073709551616) : fnan (fneg x) = fnan x := by
  unfold fnan
  rw [read_fneg x hx]
  cases double.read x <;> rfl
theorem signed_not (s : Bool) (m a : Nat) : signed (!s) m a = -signed s m a := by
  unfold signed
  cases s <;> simp
theorem fkey_fneg (x : Nat) (hx : x < 18446744073709551616) : fkey (fneg x) = -fkey x := by
  unfold fkey
  rw [read_fneg x hx]
  cases h : double.read x with
  | number s m i => exact signed_not s m _
  | infinity s => cases s <;> simp [Datum.opposite, dkey]
  | nan s t => rfl
def maxK : Int := fkey 9218868437227405311
theorem max_facts : fnan 9218868437227405311 = false ∧ fnan 18442240474082181119 = false ∧ fkey 18442240474082181119 = -maxK := by
  refine ⟨by decide +kernel, by decide +kernel, ?_⟩
  have := fkey_fneg 9218868437227405311 (by decide)
  rw [show fneg 9218868437227405311 = 18442240474082181119 from by decide +kernel] at this
  exact this
theorem max_pos : 0 < maxK := by unfold maxK; decide +kernel
/-- The class of a float. -/
def cls (x : Nat) : Int :=
  if fnan x = true then 0 else if fkey x < -maxK then 1 else if maxK < fkey x then 6 else if fkey x < 0 then 2 else if 0 < fkey x then 5 else if 9223372036854775808 ≤ x then 3 else 4
/-- How one stands to another. -/
def fcmp (x y : Nat) : Int := if cls x < cls y ∨ (cls x = cls y ∧ flt x y = true) then -1 else if cls y < cls x ∨ (cls x = cls y ∧ flt y x = true) then 1 else 0
theorem flt_asymm (x y : Nat) (h : flt x y = true) : flt y x = false := by
  unfold flt at *
  cases hx : fnan x <;> cases hy : fnan y <;> simp [hx, hy] at h ⊢
  omega
theorem fcmp_neg (x y : Nat) : fcmp y x = -fcmp x y := by
  unfold fcmp
  have h := flt_asymm x y
  have h' := flt_asymm y x
  cases h1 : flt x y <;> cases h2 : flt y x <;> simp [h1, h2] at h h' ⊢
  all_goals (repeat' split) <;> omega
theorem fcmp_self (x : Nat) : fcmp x x = 0 := by
  have := fcmp_neg x x
  omega
theorem cls_nan (x : Nat) (h : fnan x = true) : cls x = 0 := by unfold cls; rw [if_pos h]
theorem cls_num (x : Nat) (h : fnan x = false) : 1 ≤ cls x := by
  unfold cls
  rw [h, if_neg Bool.false_ne_true]
  repeat' split
  all_goals omega
theorem flt_num (x y : Nat) (hx : fnan x = false) (hy : fnan y = false) : flt x y = true ↔ fkey x < fkey y := by
  unfold flt
  simp [hx, hy]
theorem fcmp_trans (a b c : Nat) (h1 : fcmp a b ≤ 0) (h2 : fcmp b c ≤ 0) : fcmp a c ≤ 0 := by
  cases ha : fnan a
  · cases hb : fnan b
    · cases hc : fnan c
      · unfold fcmp at *
        simp only [flt_num _ _ ha hb, flt_num _ _ hb ha, flt_num _ _ hb hc, flt_num _ _ hc hb, flt_num _ _ ha hc, flt_num _ _ hc ha] at *
        revert h1 h2
        repeat' split
        all_goals omega
      · have := cls_nan c hc
        have := cls_num b hb
        unfold fcmp at h2
        rw [if_neg (by rintro (h | h); omega; omega), if_pos (by left; omega)] at h2
        omega
    · have := cls_nan b hb
      have := cls_num a ha
      unfold fcmp at h1
      rw [if_neg (by rintro (h | h); omega; omega), if_pos (by left; omega)] at h1
      omega
  · have h0 := cls_nan a ha
    have hn : ∀ z, flt z a = false := fun z => by unfold flt; simp [ha]
    have hc : 0 ≤ cls c := by
      cases hc : fnan c
      · have := cls_num c hc; omega
      · rw [cls_nan c hc]; omega
    unfold fcmp
    rw [hn c]
    repeat' split
    all_goals first | omega | (simp at *; omega)
theorem fcmp_eq (a b c : Nat) (h1 : fcmp a b = 0) (h2 : fcmp b c = 0) : fcmp a c = 0 := by
  have h3 := fcmp_trans a b c (by omega) (by omega)
  have h4 := fcmp_trans c b a (by rw [fcmp_neg b c]; omega) (by rw [fcmp_neg a b]; omega)
  rw [fcmp_neg a c] at h4
  omega
end Go
