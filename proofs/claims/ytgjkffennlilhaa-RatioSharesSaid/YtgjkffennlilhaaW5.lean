/- A hundred times what lies between nought and one, made whole. -/
import Derived.Test.YtgjkffennlilhaaW3
import Derived.Laws.FloatBits
namespace Go
open Ieee

theorem shl_one (n : Nat) : 1 <<< n = 2 ^ n := by rw [Nat.shiftLeft_eq, Nat.one_mul]
theorem lt_log (P : Nat) : P < 2 ^ (P.log2 + 1) := Nat.lt_log2_self
theorem cut_more (way : Toward) (neg : Bool) (n drop : Nat) : way.cut neg n drop ≤ n / (1 <<< min drop (n.log2 + 2)) + 1 := by
  unfold Toward.cut
  simp only
  have : ∀ b : Bool, b.toNat ≤ 1 := fun b => by cases b <;> decide
  have h := this (match way with
    | .even => (1 <<< min drop (n.log2 + 2)) < 2 * (n % (1 <<< min drop (n.log2 + 2))) || ((1 <<< min drop (n.log2 + 2)) == 2 * (n % (1 <<< min drop (n.log2 + 2))) && n / (1 <<< min drop (n.log2 + 2)) % 2 == 1)
    | .down => neg && n % (1 <<< min drop (n.log2 + 2)) != 0
    | .up => !neg && n % (1 <<< min drop (n.log2 + 2)) != 0
    | .zero => false)
  exact Nat.add_le_add_left h _
theorem div_small (P d : Nat) (h : P < 2 ^ (d + 53)) : P / (1 <<< min d (P.log2 + 2)) < 2 ^ 53 := by
  rw [shl_one]
  rcases Nat.le_total d (P.log2 + 2) with h1 | h1
  · rw [Nat.min_eq_left h1]
    rw [Nat.div_lt_iff_lt_mul (Nat.two_pow_pos d), ← Nat.pow_add, Nat.add_comm]
    exact h
  · rw [Nat.min_eq_right h1]
    have h2 : P < 2 ^ (P.log2 + 2) := Nat.lt_of_lt_of_le (lt_log P) (Nat.pow_le_pow_right (by omega) (by omega))
    rw [Nat.div_eq_of_lt h2]
    exact Nat.two_pow_pos 53
theorem kept_small (P : Nat) (q last : Int) (h : q + P.log2 ≤ last + 52) : Toward.even.cut false (P <<< (q - last).toNat) (last - q).toNat ≤ 2 ^ 53 := by
  refine Nat.le_trans (cut_more _ _ _ _) (Nat.succ_le_of_lt ?_)
  rcases Int.le_total q last with h3 | h3
  · rw [show (q - last).toNat = 0 by omega, Nat.shiftLeft_zero]
    refine div_small P _ ?_
    exact Nat.lt_of_lt_of_le (lt_log P) (Nat.pow_le_pow_right (by decide) (by omega))
  · rw [show (last - q).toNat = 0 by omega]
    obtain ⟨n, hn⟩ : ∃ n, P <<< (q - last).toNat = n := ⟨_, rfl⟩
    rw [hn]
    refine div_small n 0 ?_
    rw [← hn, Nat.shiftLeft_eq]
    have h4 : P * 2 ^ (q - last).toNat < 2 ^ (P.log2 + 1) * 2 ^ (q - last).toNat := Nat.mul_lt_mul_of_pos_right (lt_log P) (Nat.two_pow_pos _)
    rw [← Nat.pow_add] at h4
    exact Nat.lt_of_lt_of_le h4 (Nat.pow_le_pow_right (by decide) (by omega))
theorem double_frac : double.fractionBits = 52 := rfl
theorem fin_bound (e kept : Nat) (h6 : e ≤ 1029) (h4 : kept ≤ 9007199254740992) : e * 4503599627370496 + kept ≤ 4643211215818981376 := by omega
theorem nearest_small_f (f : Format) (hf : f.fractionBits = 52) (hl : f.leastPlace = -1074) (hb : f.binade = 4503599627370496) (hi : f.infRung = 9218868437227405312) (P : Nat) (q : Int) (hP : P ≠ 0) (h : q + P.log2 ≤ 7) : f.nearest false P q ≤ 4643211215818981376 := by
  unfold Format.nearest
  rw [if_neg hP, hf, hl, hb, hi]
  obtain ⟨last, hlast⟩ : ∃ last, max (q + P.log2 - (52 : Nat)) (-1074) = last := ⟨_, rfl⟩
  have h1 : (last - -1074).toNat ≤ 1029 := by omega
  have h2 := kept_small P q last (by omega)
  obtain ⟨e, he⟩ : ∃ e, (last - -1074).toNat = e := ⟨_, rfl⟩
  obtain ⟨kept, hk⟩ : ∃ kept, Toward.even.cut false (P <<< (q - last).toNat) (last - q).toNat = kept := ⟨_, rfl⟩
  have h6 : e ≤ 1029 := he ▸ h1
  rw [hk] at h2
  have h5 := fin_bound e kept h6 h2
  show (if false = true then f.signWeight + min ((max (q + P.log2 - (52 : Nat)) (-1074) - -1074).toNat * 4503599627370496 + Toward.even.cut false (P <<< (q - max (q + P.log2 - (52 : Nat)) (-1074)).toNat) (max (q + P.log2 - (52 : Nat)) (-1074) - q).toNat) 9218868437227405312 else min ((max (q + P.log2 - (52 : Nat)) (-1074) - -1074).toNat * 4503599627370496 + Toward.even.cut false (P <<< (q - max (q + P.log2 - (52 : Nat)) (-1074)).toNat) (max (q + P.log2 - (52 : Nat)) (-1074) - q).toNat) 9218868437227405312) ≤ _
  rw [if_neg Bool.false_ne_true, hlast, he, hk]
  exact Nat.le_trans (Nat.min_le_left _ _) h5
theorem nearest_small (P : Nat) (q : Int) (hP : P ≠ 0) (h : q + P.log2 ≤ 7) : double.nearest false P q ≤ 4643211215818981376 := nearest_small_f double double_frac double_least double_binade double_inf P q hP h
/-- What a small word is, cut to a whole number. -/
theorem small_word (x : Nat) (h : x ≤ 4643211215818981376) : ∃ m i k, double.read x = .number false m i ∧ k < 512 ∧ Toward.zero.cut false (m <<< i.toNat) (-i).toNat = k ∧ Toward.down.cut false (m <<< i.toNat) (-i).toNat = k := by
  have key : ∀ m : Nat, ∀ i : Int, m < 9007199254740992 → i ≤ -44 → ∃ k, k < 512 ∧ Toward.zero.cut false (m <<< i.toNat) (-i).toNat = k ∧ Toward.down.cut false (m <<< i.toNat) (-i).toNat = k := by
    intro m i hm hi
    refine ⟨m / (1 <<< min (-i).toNat (m.log2 + 2)), ?_, ?_, ?_⟩
    · rw [shl_one]
      rcases Nat.le_total (-i).toNat (m.log2 + 2) with h1 | h1
      · rw [Nat.min_eq_left h1, Nat.div_lt_iff_lt_mul (Nat.two_pow_pos _)]
        have h2 : 2 ^ 44 ≤ 2 ^ (-i).toNat := Nat.pow_le_pow_right (by omega) (by omega)
        have h3 : 512 * 2 ^ 44 ≤ 512 * 2 ^ (-i).toNat := Nat.mul_le_mul_left _ h2
        have h4 : 512 * 2 ^ 44 = 9007199254740992 := rfl
        omega
      · rw [Nat.min_eq_right h1]
        have h2 : m < 2 ^ (m.log2 + 2) := Nat.lt_of_lt_of_le (lt_log m) (Nat.pow_le_pow_right (by omega) (by omega))
        rw [Nat.div_eq_of_lt h2]
        omega
    · rw [show i.toNat = 0 by omega, Nat.shiftLeft_zero]; rfl
    · rw [show i.toNat = 0 by omega, Nat.shiftLeft_zero]; rfl
  unfold Format.read
  simp only [double_least, double_binade, double_inf, double_sign]
  have hs : (x / 9223372036854775808 % 2 == 1) = false := by
    rw [Nat.div_eq_of_lt (by omega)]; rfl
  rw [hs, Nat.mod_eq_of_lt (show x < 9223372036854775808 by omega)]
  by_cases h1 : x < 4503599627370496
  · rw [if_pos h1]
    obtain ⟨k, a, b, c⟩ := key x (-1074) (by omega) (by omega)
    exact ⟨_, _, k, rfl, a, b, c⟩
  · rw [if_neg h1, if_pos (by omega)]
    obtain ⟨k, a, b, c⟩ := key (4503599627370496 + x % 4503599627370496) (-1074 + (x / 4503599627370496 - 1 : Nat)) (by omega) (by omega)
    exact ⟨_, _, k, rfl, a, b, c⟩
theorem whole_back : ∀ k, k < 512 → floatToIntVal .f64 (double.nearest false k 0) .i64 = some (k : Int) := by decide +kernel
theorem pow_le_inv (a b : Nat) (h : 2 ^ a ≤ 2 ^ b) : a ≤ b := (Nat.pow_le_pow_iff_right (by decide)).1 h
theorem one_key : fnan 4607182418800017408 = false ∧ double.read 4607182418800017408 = .number false 4503599627370496 (-52) := by decide +kernel
/-- A hundred times a number between nought and one. -/
theorem hundred (x : Nat) (hn : fnan x = false) (h0 : 0 < fkey x) (h1 : ¬ fkey 4607182418800017408 < fkey x) : ∃ m, double.mul 4636737291354636288 x = some m ∧ m ≤ 4643211215818981376 := by
  have hone : fkey 4607182418800017408 = ((2 ^ 1074 : Nat) : Int) := by unfold fkey; rw [one_key.2]; decide +kernel
  have hb := signed_bound false 4503599627370496 (-52) (by decide) (by decide)
  rw [hone] at h1
  unfold fkey at h0 h1
  unfold fnan at hn
  rcases read_shape x with ⟨s, mg, i, ex, i1, i2, i3, -⟩ | ⟨s, ex⟩ | ⟨s, t, ex⟩
  · rw [ex] at h0 h1
    change 0 < signed s mg (i + 1074).toNat at h0
    change ¬ ((2 ^ 1074 : Nat) : Int) < signed s mg (i + 1074).toNat at h1
    unfold signed at h0 h1
    rw [Nat.shiftLeft_eq] at h0 h1
    cases s
    · have h2 : mg * 2 ^ (i + 1074).toNat ≤ 2 ^ 1074 := by
        have : ¬ ((2 ^ 1074 : Nat) : Int) < ((mg * 2 ^ (i + 1074).toNat : Nat) : Int) := h1
        exact Nat.le_of_not_lt fun h => this (Int.ofNat_lt.2 h)
      have hm0 : mg ≠ 0 := by
        intro h
        subst h
        have : (0 : Int) < ((0 * 2 ^ (i + 1074).toNat : Nat) : Int) := h0
        rw [Nat.zero_mul] at this
        exact absurd this (by decide)
      have h3 : 2 ^ (mg.log2 + (i + 1074).toNat) ≤ 2 ^ 1074 := by
        rw [Nat.pow_add]
        exact Nat.le_trans (Nat.mul_le_mul_right _ (Nat.log2_self_le hm0)) h2
      have h4 : mg.log2 + (i + 1074).toNat ≤ 1074 := pow_le_inv (mg.log2 + (i + 1074).toNat) 1074 h3
      have h5 : (7036874417766400 * mg) ≠ 0 := Nat.mul_ne_zero (by decide) hm0
      have h6 : (7036874417766400 * mg).log2 ≤ mg.log2 + 53 := by
        have h7 : 7036874417766400 * mg < 2 ^ (mg.log2 + 54) := by
          have h8 : 7036874417766400 * mg < 7036874417766400 * 2 ^ (mg.log2 + 1) := Nat.mul_lt_mul_of_pos_left (lt_log mg) (by decide)
          have h9 : 7036874417766400 * 2 ^ (mg.log2 + 1) ≤ 2 ^ 53 * 2 ^ (mg.log2 + 1) := Nat.mul_le_mul_right _ (by decide)
          rw [← Nat.pow_add, show 53 + (mg.log2 + 1) = mg.log2 + 54 by omega] at h9
          omega
        have := (Nat.log2_lt h5).2 h7
        omega
      refine ⟨double.nearest false (7036874417766400 * mg) (-46 + i), ?_, nearest_small _ _ h5 (by omega)⟩
      unfold Format.mul
      rw [ex, show double.read 4636737291354636288 = .number false 7036874417766400 (-46) from by decide +kernel]
      rfl
    · have : (0 : Int) < -((mg * 2 ^ (i + 1074).toNat : Nat) : Int) := h0
      omega
  · rw [ex] at h0 h1
    have hb2 := hb.2
    rw [show signed false 4503599627370496 ((-52 : Int) + 1074).toNat = ((2 ^ 1074 : Nat) : Int) from by decide +kernel] at hb2
    cases s
    · exact absurd hb2 h1
    · have := big_pos
      change 0 < -bigKey at h0
      omega
  · rw [ex] at hn; cases hn
end Go
