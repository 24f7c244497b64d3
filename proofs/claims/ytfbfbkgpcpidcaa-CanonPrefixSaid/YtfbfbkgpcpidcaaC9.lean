/- No code is the beginning of another one's. -/
import Derived.Test.YtfbfbkgpcpidcaaC8
import Derived.Deep.QuietTactic
import Derived.BigQuiet
namespace Go.Proofs.Ytfbfbkgpcpidcaa
open Go.RowKit

theorem revN_mod (v d m : Nat) : revN v (d + m) % 2 ^ d = revN (v / 2 ^ m) d := by
  apply Nat.eq_of_testBit_eq
  intro j
  rw [Nat.testBit_mod_two_pow, revN_bit, revN_bit, Nat.testBit_div_two_pow]
  by_cases h : j < d
  · simp [h, show j < d + m by omega, show d + m - 1 - j = d - 1 - j + m by omega]
  · simp [h]
theorem revN_inj (a b k : Nat) (ha : a < 2 ^ k) (hb : b < 2 ^ k) (h : revN a k = revN b k) : a = b := by
  have h1 := revN_twice a k
  have h2 := revN_twice b k
  rw [h, h2, Nat.mod_eq_of_lt ha, Nat.mod_eq_of_lt hb] at h1
  exact h1.symm
theorem cnt_take_lt (ns : List Int) (i k : Nat) (h : i < ns.length) (hv : ns.getD i 0 = (k : Int)) : cnt (ns.take i) k + 1 ≤ cnt ns k := by
  have h1 := cnt_take ns i k h
  rw [if_pos hv] at h1
  have h2 := cnt_take_le ns (i + 1) k
  omega
theorem cnt_take_mono (ns : List Int) (i j k : Nat) (h : i ≤ j) : cnt (ns.take i) k ≤ cnt (ns.take j) k := by
  have h2 := cnt_take_le (ns.take j) i k
  rw [List.take_take, Nat.min_eq_left h] at h2
  exact h2.2
/-- A code, as a share of the whole. -/
theorem cd_bounds (ns : List Int) (i L : Nat) (hi : i < ns.length) (hv : ns.getD i 0 = ((L + 1 : Nat) : Int)) (hL : L < 15) (hs : sumTo ns 15 ≤ 32768) :
    sumTo ns L ≤ (cdN ns i : Int) * 2 ^ (14 - L) ∧ ((cdN ns i : Int) + 1) * 2 ^ (14 - L) ≤ sumTo ns (L + 1) ∧ cdN ns i < 2 ^ (L + 1) := by
  have h0 := nx_nonneg ns (L + 1)
  have h1 := cnt_take_lt ns i (L + 1) hi hv
  have h2 := (cnt_take_le ns i (L + 1)).1
  have h3 := nx_sum ns L hL
  have h4 := nx_le ns L hL hs
  have hc : (cdN ns i : Int) = nx ns (L + 1) + cnt (ns.take i) (L + 1) := by
    unfold cdN
    rw [hv]
    simp only [Int.toNat_natCast]
    omega
  have hp : (0 : Int) ≤ 2 ^ (14 - L) := by have := two_pow_le (14 - L) (by omega); have h : (0 : Int) < 2 ^ (14 - L) := Int.pow_pos (by omega); omega
  have h5 : sumTo ns (L + 1) = sumTo ns L + cnt ns (L + 1) * 2 ^ (14 - L) := by
    simp only [sumTo]
    rw [show 15 - (L + 1) = 14 - L by omega]
  rw [h5, Int.add_mul] at h3
  rw [hc]
  refine ⟨?_, ?_, ?_⟩
  · have := Int.mul_nonneg h2 hp
    rw [Int.add_mul]
    omega
  · have := Int.mul_le_mul_of_nonneg_right h1 hp
    rw [Int.add_assoc, Int.add_mul, h5]
    omega
  · have : (cdN ns i : Int) < ((2 ^ (L + 1) : Nat) : Int) := by rw [hc]; push_cast; omega
    omega
theorem sumTo_up (ns : List Int) (q d : Nat) : sumTo ns q ≤ sumTo ns (q + d) := by
  induction d with
  | zero => exact Int.le_refl _
  | succ d ih =>
    have := part_bd ns (q + d)
    rw [← Nat.add_assoc]
    simp only [sumTo]
    omega
theorem pre_ne (ns : List Int) (i k a b : Nat) (hi : i < ns.length) (hk : k < ns.length) (hne : i ≠ k) (hs : sumTo ns 15 ≤ 32768) (hva : ns.getD i 0 = (a : Int)) (hvb : ns.getD k 0 = (b : Int)) (h1 : 1 ≤ a) (h2 : a ≤ b) (h15 : b ≤ 15) :
    cdOf ns k % 2 ^ a ≠ cdOf ns i := by
  obtain ⟨L, rfl⟩ : ∃ L, a = L + 1 := ⟨a - 1, by omega⟩
  obtain ⟨m, rfl⟩ : ∃ m, b = L + 1 + m := ⟨b - (L + 1), by omega⟩
  obtain ⟨x1, x2, x3⟩ := cd_bounds ns i L hi hva (by omega) hs
  obtain ⟨y1, y2, y3⟩ := cd_bounds ns k (L + m) hk (by rw [hvb]; congr 1; omega) (by omega) hs
  have e1 : cdOf ns i = revN (cdN ns i) (L + 1) := by
    unfold cdOf
    rw [hva, if_pos (by omega)]
    rfl
  have e2 : cdOf ns k = revN (cdN ns k) (L + 1 + m) := by
    unfold cdOf
    rw [hvb, if_pos (by omega)]
    rfl
  intro he
  rw [e1, e2, revN_mod] at he
  have hlt : cdN ns k / 2 ^ m < 2 ^ (L + 1) := by
    rw [Nat.div_lt_iff_lt_mul (Nat.pow_pos (by omega)), ← Nat.pow_add, show L + 1 + m = L + m + 1 by omega]
    exact y3
  have h3 := revN_inj _ _ _ hlt x3 he
  have hmul : (2 : Int) ^ (14 - L) = 2 ^ m * 2 ^ (14 - (L + m)) := by
    rw [← Int.pow_add]
    congr 1
    omega
  have hp : (0 : Int) < 2 ^ (14 - (L + m)) := Int.pow_pos (by omega)
  rcases Nat.eq_zero_or_pos m with rfl | hm
  · rw [Nat.pow_zero, Nat.div_one] at h3
    have hc1 : (cdN ns i : Int) = nx ns (L + 1) + cnt (ns.take i) (L + 1) := by
      have := nx_nonneg ns (L + 1); have := (cnt_take_le ns i (L + 1)).1
      unfold cdN; rw [hva]; simp only [Int.toNat_natCast]; omega
    have hc2 : (cdN ns k : Int) = nx ns (L + 1) + cnt (ns.take k) (L + 1) := by
      have := nx_nonneg ns (L + 1); have := (cnt_take_le ns k (L + 1)).1
      unfold cdN; rw [hvb]; simp only [Int.toNat_natCast, Nat.add_zero]; omega
    rcases Nat.lt_or_gt_of_ne hne with h | h
    · have g1 := cnt_take ns i (L + 1) hi
      rw [if_pos hva] at g1
      have g2 := cnt_take_mono ns (i + 1) k (L + 1) h
      omega
    · have g1 := cnt_take ns k (L + 1) hk
      rw [if_pos hvb] at g1
      have g2 := cnt_take_mono ns (k + 1) i (L + 1) h
      omega
  · have hmono : sumTo ns (L + 1) ≤ sumTo ns (L + m) := by
      have := sumTo_up ns (L + 1) (m - 1)
      rwa [show L + 1 + (m - 1) = L + m by omega] at this
    have h4 : ((cdN ns i : Int) + 1) * 2 ^ m * 2 ^ (14 - (L + m)) ≤ (cdN ns k : Int) * 2 ^ (14 - (L + m)) := by
      rw [Int.mul_assoc, ← hmul]
      omega
    have h5 := Int.le_of_mul_le_mul_right h4 hp
    have h6 : (cdN ns i + 1) * 2 ^ m ≤ cdN ns k := by
      have : (((cdN ns i + 1) * 2 ^ m : Nat) : Int) ≤ (cdN ns k : Int) := by push_cast; exact h5
      omega
    have h7 := (Nat.le_div_iff_mul_le (Nat.pow_pos (by omega))).2 h6
    omega
set_option maxHeartbeats 1000000 in
theorem codes_bad (A : Option Addr) (n c K E : Nat) (ns : List Int) (S : Nat → Prop) (w : World) (hL : Lst w S 1 A n (ns.map (Value.int .i64))) (hs : ∀ b, S b → b < w.heap.size) (hb : Big ns) (hl : n ≤ 1000000)
    (hK : kindOf ns = K) (hE : K = 5 ∧ E = 1 ∨ K = 4 ∧ E = 24) :
    Calls Try.prog 8 #[.slice A n c] w fun e w' => e = .returned (.tuple #[.slice none 0 0, .int .i64 (E : Nat)]) ∧ Below w.heap.size w w' := by
  have HK := Lib.hid (kind_any A n c ns S w hL hs hb hl)
  rw [hK] at HK
  clear hL hb hs hK hl
  rcases hE with ⟨rfl, rfl⟩ | ⟨rfl, rfl⟩
  all_goals
    go_enter Try.func8, Try.ntmps8
    go_wp2_with fail
    refine HK.out.mono ?_
    rintro e w1 ⟨rfl, hb1⟩
    have HB1 := Lib.hid hb1
    clear hb1 HK
    go_wp2
    go_ret2
    exact ⟨rfl, HB1.out⟩
theorem kind_cases (ns : List Int) : (right ns = true ∧ sumTo ns 15 ≤ 32768 ∧ kindOf ns < 4) ∨ ∃ K E, kindOf ns = K ∧ (K = 5 ∧ E = 1 ∨ K = 4 ∧ E = 24) := by
  unfold kindOf
  cases hr : right ns
  · exact .inr ⟨5, 1, rfl, .inl ⟨rfl, rfl⟩⟩
  · by_cases h : sumTo ns 15 ≤ 32768
    · refine .inl ⟨rfl, h, ?_⟩
      unfold kindV
      rw [if_pos rfl, if_neg (by omega)]
      repeat' split
      all_goals omega
    · exact .inr ⟨4, 24, by unfold kindV; rw [if_pos rfl, if_pos (by omega)], .inr ⟨rfl, rfl⟩⟩
theorem right_at (ns : List Int) (h : right ns = true) (j : Nat) (hj : j < ns.length) : ∃ q : Nat, ns.getD j 0 = q ∧ q ≤ 15 := by
  unfold right at h
  rw [List.all_eq_true] at h
  have h1 := h _ (List.getElem_mem hj)
  rw [List.getD_eq_getElem?_getD, List.getElem?_eq_getElem hj]
  unfold okN at h1
  simp at h1
  exact ⟨ns[j].toNat, by simp; omega, by omega⟩
theorem cdI_at (ns : List Int) (n j : Nat) (h : j < n) : ((List.range n).map (cdI ns)).getD j 0 = ((cdOf ns j : Nat) : Int) := by
  rw [List.getD_eq_getElem?_getD, List.getElem?_eq_getElem (by simpa using h)]
  simp [cdI]
theorem cdOf_lt (ns : List Int) (j q : Nat) (hq : ns.getD j 0 = (q : Int)) (h : q ≤ 15) : cdOf ns j < 32768 := by
  unfold cdOf
  rw [hq]
  split
  · have := revN_lt (cdN ns j) q
    have h2 := two_pow_le q (by omega)
    have : ((2 ^ q : Nat) : Int) ≤ 32768 := by push_cast; exact h2
    simp only [Int.toNat_natCast]
    omega
  · omega
theorem OwnAt.drewN {w : World} {base g n cap : Nat} {e : TypeId} {k : IntKind} {ns : List Int} (h : OwnAt w base e k g n cap ns) (d : Nat) : OwnAt (w.drewN d) base e k g n cap ns := h
set_option maxHeartbeats 2000000 in
theorem prefix_law (A : Option Addr) (n c : Nat) (ns : List Int) (W : World) (hL : Lst W (fun b => b < W.heap.size) 1 A n (ns.map (Value.int .i64))) (hb : Big ns) (hcap : n ≤ 9223372036854775807) :
    Calls Try.prog 4 #[.slice A n c] W fun e w' => e = .returned (.bool true) ∧ Below W.heap.size W w' := by
  have hn : ns.length = n := by have := hL.len; simpa using this
  subst hn
  have HL := Lib.hid hL
  have HBG := Lib.hid hb
  clear hL hb
  go_enter Try.func4, Try.ntmps4
  go_wp2_with fail
  refine (awake_any W).mono ?_
  rintro e w1 ⟨rfl, hb1⟩
  have HB1 := Lib.hid hb1
  clear hb1
  by_cases h4 : 60 < ns.length
  · have x4 : decide (60 < ns.length) = true := by simpa using h4
    go_wp2
    go_ret
    exact ⟨rfl, HB1.out⟩
  · have x4 : decide (60 < ns.length) = false := by simpa using h4
    have hl : ns.length ≤ 60 := by omega
    clear h4 hcap
    rcases kind_cases ns with ⟨hr, hs, hk4⟩ | ⟨K, E, hK, hE⟩
    · have HR := Lib.hid hr
      have HM := Lib.hid hs
      clear hr hs hk4
      go_wp2_with fail
      refine (codes_any A ns.length c ns _ w1 (HL.out.below HB1.out) (fun b h => Nat.lt_of_lt_of_le h HB1.out.size) HBG.out (by omega) HR.out HM.out).mono ?_
      rintro e w2 ⟨g, rfl, ho, hb2⟩
      have HW := Lib.hid (HB1.out.trans (hb2.mono HB1.out.size))
      have HO := Lib.hid ho
      clear ho hb2 HB1
      go_wp2
      go_loopw [5] (fun i wr => ∃ k : Nat, k ≤ ns.length ∧ i = .int .i64 (k : Nat) ∧ ∃ d, wr = w2.drewN d) (fun i _ => ns.length - (intOf i).toNat)
      case atStart => exact ⟨0, Nat.zero_le _, rfl, 0, rfl⟩
      case round =>
        obtain ⟨i, hi, rfl, d0, rfl⟩ := hrel
        by_cases hlt : i < ns.length
        · go_wp2
          go_loopw [6] (fun i wr => ∃ k : Nat, k ≤ ns.length ∧ i = .int .i64 (k : Nat) ∧ ∃ d, wr = w2.drewN d) (fun i _ => ns.length - (intOf i).toNat)
          case atStart => exact ⟨0, Nat.zero_le _, rfl, d0, rfl⟩
          case round =>
            obtain ⟨k, hk, rfl, d, rfl⟩ := hrel
            by_cases hlk : k < ns.length
            · obtain ⟨b, off, rfl, hbl, _, hc⟩ := (HL.out.below HW.out).int_at hlt
              obtain ⟨b', off', h', hbl', _, hc'⟩ := (HL.out.below HW.out).int_at hlk
              injection h' with h'
              injection h' with h1 h2 _
              subst h1 h2
              obtain ⟨q, hq, hq15⟩ := right_at ns HR.out i hlt
              obtain ⟨p, hp, hp15⟩ := right_at ns HR.out k hlk
              rw [hq] at hc
              rw [hp] at hc'
              have ck := HO.out.cell hlk
              have ci := HO.out.cell hlt
              rw [cdI_at ns _ _ hlk] at ck
              rw [cdI_at ns _ _ hlt] at ci
              have HP := Lib.hid (fun hne h1 h2 => pre_ne ns i k q p hlt hlk hne HM.out hq hp h1 h2 hp15)
              have hx1 := cdOf_lt ns i q hq hq15
              have hx2 := cdOf_lt ns k p hp hp15
              clear hq hp
              generalize cdOf ns i = x at *
              generalize cdOf ns k = y at *
              by_cases hne : i = k
              · subst hne
                go_wp2
                go_quiet (fail)
                go_wp2
                exact ⟨⟨i + 1, by omega, by go_num, d + nq, by first | rfl | simp⟩, by simp [intOf]; omega⟩
              · have z1 : ((i : Int) != k) = true := by simp; omega
                have z1' : (i == k) = false := by simpa using hne
                by_cases h0 : 0 < q
                · by_cases h1 : q ≤ p
                  · have z2 : decide (0 < q) = true := by simpa using h0
                    have z3 : decide (q ≤ p) = true := by simpa using h1
                    obtain ⟨R, hR⟩ : ∃ R : Nat, 2 ^ q = R := ⟨_, rfl⟩
                    have hRb : (R : Int) ≤ 32768 := by have := two_pow_le q (by omega); rw [← hR]; push_cast; exact this
                    have hR0 : 0 < R := by rw [← hR]; exact Nat.pow_pos (by omega)
                    have y1 : (2 : Int) ^ q % 4294967296 = (R : Int) := by
                      have : (2 : Int) ^ q = (R : Int) := by rw [← hR]; push_cast; rfl
                      rw [this]; omega
                    obtain ⟨Z, hZ⟩ : ∃ Z : Nat, y % R = Z := ⟨_, rfl⟩
                    have y2 : (y : Int).tmod (R : Int) = (Z : Int) := by rw [← hZ]; exact (Int.ofNat_tmod y R).symm
                    have y3 : ¬ (R : Int) = 0 := by omega
                    have y4 : ¬ R = 0 := by omega
                    have hzx : Z ≠ x := by rw [← hZ, ← hR]; exact HP.out hne h0 h1
                    have z4 : ((Z : Int) == (x : Int)) = false := by simp; omega
                    have z5 : (Z == x) = false := by simp; omega
                    clear hR hZ hzx
                    go_wp2
                    go_quiet (fail)
                    go_wp2
                    exact ⟨⟨k + 1, by omega, by go_num, d + nq, by first | rfl | simp⟩, by simp [intOf]; omega⟩
                  · have z2 : decide (0 < q) = true := by simpa using h0
                    have z3 : decide (q ≤ p) = false := by simpa using h1
                    go_wp2
                    go_quiet (fail)
                    go_wp2
                    exact ⟨⟨k + 1, by omega, by go_num, d + nq, by first | rfl | simp⟩, by simp [intOf]; omega⟩
                · have z2 : decide (0 < q) = false := by simpa using h0
                  go_wp2
                  go_quiet (fail)
                  go_wp2
                  exact ⟨⟨k + 1, by omega, by go_num, d + nq, by first | rfl | simp⟩, by simp [intOf]; omega⟩
            · obtain rfl : k = ns.length := by omega
              go_wp2
              exact ⟨⟨i + 1, by omega, by go_num, d, rfl⟩, by simp [intOf]; omega⟩
        · obtain rfl : i = ns.length := by omega
          go_wp2
          go_ret
          exact ⟨rfl, HW.out.drewN' _⟩
    · have HK := Lib.hid hK
      have HE := Lib.hid hE
      clear hK hE
      go_wp2_with fail
      refine (codes_bad A ns.length c K E ns _ w1 (HL.out.below HB1.out) (fun b h => Nat.lt_of_lt_of_le h HB1.out.size) HBG.out (by omega) HK.out HE.out).mono ?_
      rintro e w2 ⟨rfl, hb2⟩
      have HB2 := Lib.hid (HB1.out.trans (hb2.mono HB1.out.size))
      have z1 : ((E : Int) == 0) = false := by have := HE.out; simp; omega
      have z2 : (E == 0) = false := by have := HE.out; simp; omega
      have z3 : decide (4 ≤ (K : Int)) = true := by have := HE.out; simp; omega
      have z4 : decide (4 ≤ K) = true := by have := HE.out; simp; omega
      clear hb2
      go_wp2_with fail
      refine (kind_any A ns.length c ns _ w2 (HL.out.below HB2.out) (fun b h => Nat.lt_of_lt_of_le h HB2.out.size) HBG.out (by omega)).mono ?_
      rintro e w3 ⟨rfl, hb3⟩
      rw [HK.out]
      have HB3 := Lib.hid (HB2.out.trans (hb3.mono HB2.out.size))
      clear hb3
      go_wp2
      go_ret
      exact ⟨rfl, HB3.out⟩
end Go.Proofs.Ytfbfbkgpcpidcaa
