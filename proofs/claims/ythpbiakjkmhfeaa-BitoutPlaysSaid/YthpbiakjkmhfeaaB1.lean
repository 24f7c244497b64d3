/- The reader of bits. -/
import Derived.Test.YthpbiakjkmhfeaaW2
namespace Go.Proofs.Ythpbiakjkmhfeaa
open Go.RowKit

theorem own_ne' {w : World} {base g n c : Nat} {A : Option Addr} {xs : List Value} {cs : Array Value} {t : TypeId} (ht : t ≠ 5) (hg : Whole w g t cs) (h : w.ownsRow base 5 1 (.slice A n c) n xs) : some g ≠ (Value.slice A n c).ownBlock := by
  rcases h.2 with ⟨h1, _⟩ | ⟨b, cap, cur, h1, _, h2, _⟩
  · injection h1 with h1
    subst h1
    intro e
    cases e
  · injection h1 with h1
    subst h1
    intro e
    injection e with e
    subst e
    unfold Whole at hg
    rw [hg] at h2
    injection h2 with h2
    injection h2 with _ h2
    exact ht h2
/-- The reader at block g: its bytes D, P bits of them taken, G bits gone. -/
def Rd (w : World) (base g : Nat) (A : Option Addr) (c : Nat) (D : List UInt8) (P G : Nat) : Prop :=
  P ≤ 8 * D.length ∧ Whole w g 53 #[.slice A D.length c, .int .i64 (P : Nat), .int .i64 (G : Nat)] ∧ w.ownsRow base 5 1 (.slice A D.length c) D.length (D.map bv)
theorem Rd.drewN {w : World} {base g c P G : Nat} {A : Option Addr} {D : List UInt8} (h : Rd w base g A c D P G) (m : Nat) : Rd (w.drewN m) base g A c D P G := h
theorem newrd_any (w : World) : Calls Try.prog 21 #[] w fun e w' => e = .returned (.pointer (some ⟨w.heap.size, 0, none⟩)) ∧ w' = w.alloc (.cells #[.slice none 0 0, .int .i64 0, .int .i64 0] 53) := by
  go_enter Try.func21, Try.ntmps21
  go_wp2
  go_ret
  exact ⟨rfl, rfl⟩
theorem new_rd (w : World) (base : Nat) : Rd (w.alloc (.cells #[.slice none 0 0, .int .i64 0, .int .i64 0] 53)) base w.heap.size none 0 [] 0 0 :=
  ⟨by simp, Whole.new w 53 _ rfl, World.ownsRow_nil _ _ _ _⟩
theorem left_any (base g : Nat) (A : Option Addr) (c : Nat) (D : List UInt8) (P G : Nat) (w : World) (hR : Rd w base g A c D P G) (hD : D.length ≤ 1099511627776) :
    Calls Try.prog 24 #[.pointer (some ⟨g, 0, none⟩)] w fun e w' => e = .returned (.int .i64 (8 * D.length - P : Nat)) ∧ ∃ m, w' = w.drewN m := by
  obtain ⟨hP, hg, hO⟩ := hR
  have c0 := hg.cell 0
  have c1 := hg.cell 1
  have e1 : (8 : Int) * (D.length : Int) - (P : Int) = ((8 * D.length - P : Nat) : Int) := by omega
  have HE := Lib.hid e1
  obtain ⟨n, hn⟩ : ∃ n, D.length = n := ⟨_, rfl⟩
  rw [hn] at c0 hP hD HE ⊢
  clear hg hO e1 hn
  go_enter Try.func24, Try.ntmps24
  go_wp2
  go_quiet (fail)
  go_wp2
  go_ret
  refine ⟨?_, _, rfl⟩
  rw [← HE.out]
  rfl
theorem peek_bad (g : Nat) (n : Int) (w : World) (hn : n < 0 ∨ 32 < n) : Calls Try.prog 28 #[.pointer (some ⟨g, 0, none⟩), .int .i64 n] w fun e w' => e = .returned (.tuple #[.int .u32 0, .bool false]) ∧ w = w' := by
  by_cases d1 : n < 0
  · have e1 : decide (n < 0) = true := by simpa using d1
    go_enter Try.func28, Try.ntmps28
    go_wp2
    go_ret2
    exact ⟨rfl, rfl⟩
  · have e1 : decide (n < 0) = false := by simpa using d1
    have e2 : decide (32 < n) = true := by have := hn.resolve_left d1; simpa using this
    go_enter Try.func28, Try.ntmps28
    go_wp2
    go_ret2
    exact ⟨rfl, rfl⟩
theorem and_num (y o n : Nat) (hy : y < 18446744073709551616) (hn : n ≤ 32) : bits .and .u64 ((y : Int) / 2 ^ o) (IntKind.u64.wrap (IntKind.u64.wrap (2 ^ n) - 1)) = ((y / 2 ^ o % 2 ^ n : Nat) : Int) := by
  have h1 : 2 ^ n ≤ 2 ^ 32 := Nat.pow_le_pow_right (by omega) hn
  have h0 : 0 < 2 ^ n := Nat.pow_pos (by omega)
  have h2 : y / 2 ^ o ≤ y := Nat.div_le_self _ _
  rw [show ((2 : Int) ^ n) = ((2 ^ n : Nat) : Int) by simp, show ((y : Int) / 2 ^ o) = ((y / 2 ^ o : Nat) : Int) by simp, wrap_u64n _ (by omega), show (((2 ^ n : Nat) : Int) - 1) = ((2 ^ n - 1 : Nat) : Int) by omega, wrap_u64n _ (by omega), u64_and_nat _ _ (by omega) (by omega), Nat.and_two_pow_sub_one_eq_mod]
theorem byte_in (y z j : Nat) (hy : y < 256 ^ j) (hz : z < 256) (hj : j < 5) : bits .or .u64 (y : Int) (IntKind.u64.wrap ((z : Int) * 2 ^ (8 * j))) = ((y + 256 ^ j * z : Nat) : Int) := by
  have h1 : 256 ^ j ≤ 256 ^ 4 := Nat.pow_le_pow_right (by omega) (by omega)
  have h2 : z * 256 ^ j ≤ 255 * 256 ^ 4 := Nat.mul_le_mul (by omega) h1
  have e1 : (2 : Nat) ^ (8 * j) = 256 ^ j := by rw [Nat.pow_mul]
  rw [show ((2 : Int) ^ (8 * j)) = ((2 ^ (8 * j) : Nat) : Int) by simp, e1, ← Int.natCast_mul, wrap_u64n _ (by omega), u64_or_nat _ _ (by omega) (by omega)]
  congr 1
  rw [← e1] at hy ⊢
  rw [Nat.or_comm, Nat.mul_comm z, ← Nat.two_pow_add_eq_or_of_lt hy]
  omega
theorem num_take_succ (l : List UInt8) (j : Nat) (h : j < l.length) : num (l.take (j + 1)) = num (l.take j) + 256 ^ j * (l.getD j 0).toNat := by
  rw [List.take_succ_eq_append_getElem h, num_append, List.length_take, Nat.min_eq_left (by omega), List.getD_eq_getElem?_getD, List.getElem?_eq_getElem h]
  simp [num]
theorem num_split (l : List UInt8) (p : Nat) (h : p ≤ l.length) : num l = num (l.take p) + 256 ^ p * num (l.drop p) := by
  have h1 := num_append (l.take p) (l.drop p)
  rwa [List.take_append_drop, List.length_take, Nat.min_eq_left h] at h1
theorem num_take_lt (l : List UInt8) (p : Nat) : num (l.take p) < 256 ^ p := by
  have h1 := num_lt (l.take p)
  exact Nat.lt_of_lt_of_le h1 (Nat.pow_le_pow_right (by omega) (by simp; omega))
/-- The five bytes that are looked at hold the bits. -/
theorem peek_num (D : List UInt8) (P p o n k : Nat) (hp : P / 8 = p) (ho : P % 8 = o) (hn : n ≤ 32) (hl : p ≤ D.length) (hk : k = min (p + 5) D.length - p) : num D / 2 ^ P % 2 ^ n = num ((D.drop p).take k) / 2 ^ o % 2 ^ n := by
  have e1 : P = 8 * p + o := by omega
  rw [e1, Nat.pow_add, ← Nat.div_div_eq_div_mul, Nat.pow_mul, show (2 : Nat) ^ 8 = 256 from rfl, num_split D p hl, Nat.add_mul_div_left _ _ (Nat.pow_pos (by omega)), Nat.div_eq_of_lt (num_take_lt D p), Nat.zero_add]
  by_cases h : p + 5 ≤ D.length
  · rw [show k = 5 by omega, num_split (D.drop p) 5 (by simp; omega)]
    have e2 : (256 : Nat) ^ 5 = 2 ^ o * (2 ^ n * 2 ^ (40 - o - n)) := by
      rw [← Nat.pow_add, ← Nat.pow_add, show o + (n + (40 - o - n)) = 40 by omega]
    rw [e2, Nat.mul_assoc, Nat.add_mul_div_left _ _ (Nat.pow_pos (by omega)), Nat.mul_assoc, Nat.add_mul_mod_self_left]
  · rw [List.take_of_length_le (by simp; omega)]
def Peeked (w : World) (v : Nat) (b : Bool) (e : Ending) (w' : World) : Prop := e = .returned (.tuple #[.int .u32 (v : Nat), .bool b]) ∧ ∃ m, w' = w.drewN m
set_option maxHeartbeats 4000000 in
theorem peek_any (base g : Nat) (A : Option Addr) (c : Nat) (D : List UInt8) (P G n : Nat) (w : World) (hR : Rd w base g A c D P G) (hD : D.length ≤ 1099511627776) (hn : n ≤ 32) :
    Calls Try.prog 28 #[.pointer (some ⟨g, 0, none⟩), .int .i64 (n : Nat)] w (Peeked w (num D / 2 ^ P % 2 ^ n) (decide (n ≤ 8 * D.length - P))) := by
  have HR := Lib.hid hR
  obtain ⟨hP, hg, hO⟩ := hR
  have c0 := hg.cell 0
  have c1 := hg.cell 1
  have e1 : decide ((n : Int) < 0) = false := by simp
  have e2 : decide (32 < (n : Int)) = false := by simp; omega
  obtain ⟨p, hp⟩ : ∃ p, P / 8 = p := ⟨_, rfl⟩
  have hp' : (P : Int) / 8 = (p : Nat) := by omega
  obtain ⟨o, ho⟩ : ∃ o, P % 8 = o := ⟨_, rfl⟩
  have ho' : (P : Int) % 8 = (o : Nat) := by omega
  obtain ⟨len, hlen⟩ : ∃ len, D.length = len := ⟨_, rfl⟩
  obtain ⟨e, he⟩ : ∃ e, min (p + 5) len = e := ⟨_, rfl⟩
  have he' : (if (len : Int) < (p : Int) + 5 then (len : Int) else (p : Int) + 5) = (e : Nat) := by rw [← he]; split <;> omega
  have i1 : (p : Int) ≤ (e : Int) := by omega
  have i2 : e ≤ len := by omega
  rw [hlen] at c0 hP hD
  have W1 : IntKind.i64.wrap (p : Int) = p := IntWalk.i64_in _ (by omega)
  have W2 : IntKind.i64.wrap ((p : Int) + 5) = (p : Int) + 5 := IntWalk.i64_in _ (by omega)
  have hB := Bs.of_own hO
  rw [hlen] at hB hO
  have HB0 := Lib.hid hB
  have hcap : A = none ∧ len = 0 ∨ ∃ b, A = some ⟨b, 0, none⟩ ∧ len ≤ c := by
    rcases hO.2 with ⟨h1, h2⟩ | ⟨b, cap, cur, h1, _, _, h2, _⟩
    · injection h1 with h1
      exact .inl ⟨h1, h2⟩
    · injection h1 with h1 _ h3
      exact .inr ⟨b, h1, by omega⟩
  have HLEN := Lib.hid hlen
  have HE := Lib.hid he
  have HPo := Lib.hid ho
  have HPp := Lib.hid hp
  clear hg hO hB
  obtain ⟨SS, hSS⟩ : ∃ SS, (D.drop p).take (e - p) = SS := ⟨_, rfl⟩
  have HSS := Lib.hid hSS
  have hlf := fun m => left_any base g A c D P G (w.drewN m) (HR.out.drewN m) (by rw [hlen]; exact hD)
  obtain ⟨l, hl⟩ : ∃ l, 8 * D.length - P = l := ⟨_, rfl⟩
  rw [hl] at hlf ⊢
  have HLF := Lib.hid hlf
  have HFIN := Lib.hid (peek_num D P p o n (e - p) hp ho hn (by omega) (by rw [← he, hlen]))
  clear hlf hl hlen he ho hp
  rcases hcap with ⟨rfl, rfl⟩ | ⟨b, rfl, hc⟩
  · obtain rfl : p = 0 := by omega
    obtain rfl : e = 0 := by omega
    go_enter Try.func28, Try.ntmps28
    go_wp2
    go_quiet (fail)
    have HB := Lib.hid (Bs.empty w (fun _ => True) none)
    have HSL : Hid (SS.length = 0) := Lib.hid (by rw [← HSS.out]; simp)
    go_wp2
    go_loopw [6, 38] (fun v i wr => ∃ (j y : Nat), j ≤ 0 ∧ i = .int .i64 (j : Nat) ∧ Hid (num (SS.take j) = y) ∧ v = .int .u64 (y : Nat) ∧ ∃ m, wr = w.drewN m) (fun _ i _ => 0 - (intOf i).toNat)
    case atStart => exact ⟨0, 0, Nat.zero_le _, rfl, Lib.hid rfl, rfl, _, rfl⟩
    case round =>
      obtain ⟨j, y, hj, rfl, hy, rfl, m, rfl⟩ := hrel
      by_cases hlt : j < 0
      · exact absurd hlt (by omega)
      · have i5 : decide ((j : Int) < (0 : Int)) = false := by simp <;> omega
        have HJK : Hid (j = 0) := Lib.hid (by omega)
        obtain ⟨r, hr⟩ : ∃ r, y / 2 ^ o % 2 ^ n = r := ⟨_, rfl⟩
        have hr32 : r < 4294967296 := by rw [← hr]; exact Nat.lt_of_lt_of_le (Nat.mod_lt _ (Nat.pow_pos (by omega))) (show 2 ^ n ≤ 2 ^ 32 from Nat.pow_le_pow_right (by omega) hn)
        have hy64 : y < 18446744073709551616 := by
          have h1 := num_lt (SS.take j)
          have h2 : (SS.take j).length ≤ 5 := by simp <;> omega
          have h3 : 256 ^ (SS.take j).length ≤ 256 ^ 5 := Nat.pow_le_pow_right (by omega) h2
          rw [← hy.out]
          omega
        have hm := and_num y o n hy64 hn
        rw [hr] at hm
        have HM := Lib.hid hm
        have HRR := Lib.hid hr
        have W5 : IntKind.u32.wrap (r : Int) = r := IntWalk.u32_in _ (by omega)
        clear hm hr
        go_wp2
        go_quiet (fail)
        rw [HM.out]
        go_wp2_with fail
        refine (HLF.out _).mono ?_
        rintro e w1 ⟨rfl, m2, rfl⟩
        go_wp2
        go_ret2
        refine ⟨?_, _, rfl⟩
        rw [HFIN.out, HSS.out, ← HRR.out, ← hy.out, List.take_of_length_le (by rw [HSL.out, HJK.out]; exact Nat.le_refl _)]
        rfl
  · by_cases hcp : c = p
    · subst hcp
      obtain rfl : e = c := by omega
      go_enter Try.func28, Try.ntmps28
      go_wp2
      go_quiet (fail)
      have HB := Lib.hid (Bs.empty w (fun _ => True) none)
      have HSL : Hid (SS.length = 0) := Lib.hid (by rw [← HSS.out]; simp)
      go_wp2
      go_loopw [6, 38] (fun v i wr => ∃ (j y : Nat), j ≤ 0 ∧ i = .int .i64 (j : Nat) ∧ Hid (num (SS.take j) = y) ∧ v = .int .u64 (y : Nat) ∧ ∃ m, wr = w.drewN m) (fun _ i _ => 0 - (intOf i).toNat)
      case atStart => exact ⟨0, 0, Nat.zero_le _, rfl, Lib.hid rfl, rfl, _, rfl⟩
      case round =>
        obtain ⟨j, y, hj, rfl, hy, rfl, m, rfl⟩ := hrel
        by_cases hlt : j < 0
        · exact absurd hlt (by omega)
        · have i5 : decide ((j : Int) < (0 : Int)) = false := by simp <;> omega
          have HJK : Hid (j = 0) := Lib.hid (by omega)
          obtain ⟨r, hr⟩ : ∃ r, y / 2 ^ o % 2 ^ n = r := ⟨_, rfl⟩
          have hr32 : r < 4294967296 := by rw [← hr]; exact Nat.lt_of_lt_of_le (Nat.mod_lt _ (Nat.pow_pos (by omega))) (show 2 ^ n ≤ 2 ^ 32 from Nat.pow_le_pow_right (by omega) hn)
          have hy64 : y < 18446744073709551616 := by
            have h1 := num_lt (SS.take j)
            have h2 : (SS.take j).length ≤ 5 := by simp <;> omega
            have h3 : 256 ^ (SS.take j).length ≤ 256 ^ 5 := Nat.pow_le_pow_right (by omega) h2
            rw [← hy.out]
            omega
          have hm := and_num y o n hy64 hn
          rw [hr] at hm
          have HM := Lib.hid hm
          have HRR := Lib.hid hr
          have W5 : IntKind.u32.wrap (r : Int) = r := IntWalk.u32_in _ (by omega)
          clear hm hr
          go_wp2
          go_quiet (fail)
          rw [HM.out]
          go_wp2_with fail
          refine (HLF.out _).mono ?_
          rintro e w1 ⟨rfl, m2, rfl⟩
          go_wp2
          go_ret2
          refine ⟨?_, _, rfl⟩
          rw [HFIN.out, HSS.out, ← HRR.out, ← hy.out, List.take_of_length_le (by rw [HSL.out, HJK.out]; exact Nat.le_refl _)]
          rfl
    · have i3 : (e : Int) ≤ (c : Int) := by omega
      obtain ⟨k, hk⟩ : ∃ k, e - p = k := ⟨_, rfl⟩
      have hk' : (e : Int) - (p : Int) = (k : Nat) := by omega
      have hB1 := (HB0.out.drop (k := p) (by omega)).take (k := k) (by omega)
      rw [hk] at hSS
      rw [Nat.zero_add, hSS] at hB1
      clear hSS
      go_enter Try.func28, Try.ntmps28
      go_wp2
      go_quiet (fail)
      have HB := Lib.hid hB1
      have HSL : Hid (SS.length = k) := Lib.hid hB1.len
      go_wp2
      go_loopw [6, 38] (fun v i wr => ∃ (j y : Nat), j ≤ k ∧ i = .int .i64 (j : Nat) ∧ Hid (num (SS.take j) = y) ∧ v = .int .u64 (y : Nat) ∧ ∃ m, wr = w.drewN m) (fun _ i _ => k - (intOf i).toNat)
      case atStart => exact ⟨0, 0, Nat.zero_le _, rfl, Lib.hid rfl, rfl, _, rfl⟩
      case round =>
        obtain ⟨j, y, hj, rfl, hy, rfl, m, rfl⟩ := hrel
        by_cases hlt : j < k
        · obtain ⟨b1, o1, hbe, _, _, hc⟩ := HB.out.at_ hlt
          have i5 : decide ((j : Int) < (k : Int)) = true := by simp; omega
          injection hbe with hbe
          injection hbe with hbe1 hbe2
          subst hbe1 hbe2
          obtain ⟨z, hz⟩ : ∃ z : UInt8, SS.getD j 0 = z := ⟨_, rfl⟩
          rw [hz] at hc
          obtain ⟨z', hz'⟩ : ∃ z' : Nat, z.toNat = z' := ⟨_, rfl⟩
          have hcz : w.cell? ⟨b, p + j, none⟩ = some (.int .u8 (z' : Nat)) := by rw [← hz']; exact hc
          have hz256 : z' < 256 := by rw [← hz']; exact z.toNat_lt
          have HZ := Lib.hid hz'
          have HZ0 := Lib.hid hz
          have hj5 : j < 5 := by omega
          have hyj : y < 256 ^ j := by rw [← hy.out]; exact num_take_lt SS j
          have HYJ := Lib.hid hyj
          have HBI := Lib.hid (byte_in y z' j hyj hz256 hj5)
          clear hz hz' hc hyj
          go_wp2
          exact ⟨⟨j + 1, y + 256 ^ j * z', by omega, by go_num, Lib.hid (by rw [num_take_succ SS j (by rw [HB.out.len]; exact hlt), hy.out, HZ0.out, HZ.out]), by rw [HBI.out], m, rfl⟩, by simp [intOf]; omega⟩
        · have i5 : decide ((j : Int) < (k : Int)) = false := by simp <;> omega
          have HJK : Hid (j = k) := Lib.hid (by omega)
          obtain ⟨r, hr⟩ : ∃ r, y / 2 ^ o % 2 ^ n = r := ⟨_, rfl⟩
          have hr32 : r < 4294967296 := by rw [← hr]; exact Nat.lt_of_lt_of_le (Nat.mod_lt _ (Nat.pow_pos (by omega))) (show 2 ^ n ≤ 2 ^ 32 from Nat.pow_le_pow_right (by omega) hn)
          have hy64 : y < 18446744073709551616 := by
            have h1 := num_lt (SS.take j)
            have h2 : (SS.take j).length ≤ 5 := by simp <;> omega
            have h3 : 256 ^ (SS.take j).length ≤ 256 ^ 5 := Nat.pow_le_pow_right (by omega) h2
            rw [← hy.out]
            omega
          have hm := and_num y o n hy64 hn
          rw [hr] at hm
          have HM := Lib.hid hm
          have HRR := Lib.hid hr
          have W5 : IntKind.u32.wrap (r : Int) = r := IntWalk.u32_in _ (by omega)
          clear hm hr
          go_wp2
          go_quiet (fail)
          rw [HM.out]
          go_wp2_with fail
          refine (HLF.out _).mono ?_
          rintro e w1 ⟨rfl, m2, rfl⟩
          go_wp2
          go_ret2
          refine ⟨?_, _, rfl⟩
          rw [HFIN.out, HSS.out, ← HRR.out, ← hy.out, List.take_of_length_le (by rw [HSL.out, HJK.out]; exact Nat.le_refl _)]
          rfl

end Go.Proofs.Ythpbiakjkmhfeaa
