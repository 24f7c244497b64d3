/- OctetBack, for all bytes, places and numbers. -/
import Derived.Test.YtjndcehmlegacaaW6
namespace Go.Proofs.Ytjndcehmlegacaa
open Go.RowKit

theorem str_of {w : World} {S : Nat → Prop} {A : Option Addr} {n : Nat} {bs : List UInt8} (c : Nat) (h : Bs w S A n bs) : (convert 22 9 (.slice A n c)).run Try.prog w = .ok (.string ⟨bs.toArray⟩) w :=
  run_string_bs 22 9 5 c Try.underlying22 Try.underlying5 Try.underlying9 h
theorem awake_any (w : World) : Calls Try.prog 6 #[] w fun e w' => e = .returned (.bool true) ∧ Below w.heap.size w w' := by
  go_enter Try.func6, Try.ntmps6
  go_wp2_with fail
  refine (append_right none 0 0 [] (fun _ => True) 2 4660 w (Bs.empty _ _ _) (by omega) (by omega) (by omega) (by omega)).mono ?_
  rintro e w1 ⟨A, c, rfl, ho, hb⟩
  rw [show [] ++ leB 4660 2 = [52, 18] from by decide] at ho
  have k1 := str_of c (Bs.of_own ho)
  have HB := Lib.hid hb
  clear hb ho
  go_wp2
  go_ret
  exact ⟨rfl, HB.out⟩
set_option maxHeartbeats 1000000 in
set_option maxRecDepth 100000 in
theorem back_long (A : Option Addr) (n c : Nat) (bs : List UInt8) (p0 p1 : Int) (v : Nat) (w : World) (hh : 1000 < n ∨ n = 0) :
    Calls Try.prog 5 #[.slice A n c, .agg #[.int .u8 p0, .int .u8 p1], .int .u64 v] w fun e w' => e = .returned (.bool true) ∧ Below w.heap.size w w' := by
  rcases hh with h | rfl
  · go_enter Try.func5, Try.ntmps5
    go_wp2_with fail
    refine (awake_any _).mono ?_
    rintro e w1 ⟨rfl, hb⟩
    have HB := Lib.hid (((Below.refl _ _).alloc (Nat.le_refl _) _).trans (hb.mono (by simp)))
    clear hb
    go_wp2
    go_ret
    exact ⟨rfl, HB.out⟩
  · go_enter Try.func5, Try.ntmps5
    go_wp2_with fail
    refine (awake_any _).mono ?_
    rintro e w1 ⟨rfl, hb⟩
    have HB := Lib.hid (((Below.refl _ _).alloc (Nat.le_refl _) _).trans (hb.mono (by simp)))
    clear hb
    go_wp2
    go_ret
    exact ⟨rfl, HB.out⟩
set_option maxHeartbeats 4000000 in
set_option maxRecDepth 100000 in
theorem back_no (A : Option Addr) (n c : Nat) (bs : List UInt8) (p0 p1 : Int) (v : Nat) (w : World) (hB : Bs w (fun b => b < w.heap.size) A n bs) (hc : n ≤ c) (hcc : c ≤ 9223372036854775807) (h1 : 0 < n) (h2 : n ≤ 1000) (b0 : 0 ≤ p0 ∧ p0 ≤ 255) (b1 : 0 ≤ p1 ∧ p1 ≤ 255) (hv : v < 18446744073709551616)
    (p k : Nat) (hp : p0 % n = (p : Int)) (hk : 1 + p1 % 8 = (k : Int)) (hx : n < p + k) :
    Calls Try.prog 5 #[.slice A n c, .agg #[.int .u8 p0, .int .u8 p1], .int .u64 v] w fun e w' => e = .returned (.bool true) ∧ Below w.heap.size w w' := by
  have HB := Lib.hid hB
  have HP := Lib.hid hp
  have HK := Lib.hid hk
  have hk8 : k ≤ 8 := by omega
  have hk1 : 1 ≤ k := by omega
  have hpn : p < n := by
    have := Int.emod_lt_of_pos p0 (show (0 : Int) < n by omega)
    omega
  clear hB hp hk
  go_enter Try.func5, Try.ntmps5
  go_wp2_with fail
  refine (awake_any _).mono ?_
  rintro e w1 ⟨rfl, hb⟩
  have T1 := Lib.hid ((Whole.new w 49 #[.int .u8 p0, .int .u8 p1] rfl).below' hb)
  have B1 := Lib.hid (((Below.refl _ _).alloc (Nat.le_refl _) _).trans (hb.mono (by simp)))
  have L1 := Lib.hid (HB.out.below B1.out)
  clear hb
  have c0 := T1.out.cell 0
  have c1 := T1.out.cell 1
  have d0 : ((n : Int) == 0) = false := by simp; omega
  obtain ⟨b00, b01⟩ := b0
  obtain ⟨b10, b11⟩ := b1
  go_wp2_with fail
  go_quiet (fail)
  go_wp2_with fail
  rw [HP.out, HK.out]
  clear c0 c1 T1
  refine (put_no A n c bs _ p k v _ (L1.out.drewN _) (by omega) (by omega) (by omega) (by unfold existsB; simp; omega)).mono ?_
  rintro e w2 ⟨A2, c2, rfl, ho, hb⟩
  have k1 := str_of c2 (Bs.of_own ho)
  have k2 := str_of c ((L1.out.drewN nq).below hb)
  have B2 := Lib.hid ((B1.out.drewN' nq).trans (hb.mono (by have := B1.out.size; simpa using this)))
  clear ho hb
  have dd : decide ((n : Int) - p < k) = true := by simp; omega
  go_wp2
  go_ret
  exact ⟨rfl, B2.out⟩
theorem getD_over (bs : List UInt8) (p v k : Nat) (h : p + k ≤ bs.length) : num (((overB bs p (leB v k)).drop p).take k) = v % 256 ^ k := by
  have e : ((overB bs p (leB v k)).drop p).take k = leB v k := by
    unfold overB
    rw [List.append_assoc, List.drop_append_of_le_length (by simp; omega), List.drop_eq_nil_of_le (by simp; omega), List.nil_append, List.take_append_of_le_length (by rw [leB_len]; exact Nat.le_refl _), List.take_of_length_le (by rw [leB_len]; exact Nat.le_refl _)]
  rw [e, num_leB]
theorem take_over (bs xs : List UInt8) (p : Nat) (h : p ≤ bs.length) : (overB bs p xs).take p = bs.take p := by
  unfold overB
  rw [List.append_assoc, List.take_append_of_le_length (by simp; omega), List.take_take, Nat.min_self]
theorem drop_over (bs : List UInt8) (p v k : Nat) (h : p + k ≤ bs.length) : (overB bs p (leB v k)).drop (p + k) = bs.drop (p + k) := by
  unfold overB
  rw [List.drop_append_of_le_length (by simp [leB_len]; omega), List.drop_eq_nil_of_le (by simp [leB_len]; omega), List.nil_append, leB_len]
theorem fits_any (v k : Nat) (r : Bool) (w : World) (h1 : 1 ≤ k) (h2 : k ≤ 8) (hv : v < 18446744073709551616) (hr : decide (v < 256 ^ k) = r) : Calls Try.prog 10 #[.int .u64 v, .int .i64 k] w fun e w' => e = .returned (.bool r) ∧ w = w' := by
  subst hr
  exact fits_right v k w h1 h2 hv
set_option maxHeartbeats 4000000 in
set_option maxRecDepth 100000 in
theorem back_yes (A : Option Addr) (n c : Nat) (bs : List UInt8) (p0 p1 : Int) (v : Nat) (w : World) (hB : Bs w (fun b => b < w.heap.size) A n bs) (hc : n ≤ c) (hcc : c ≤ 9223372036854775807) (h1 : 0 < n) (h2 : n ≤ 1000) (b0 : 0 ≤ p0 ∧ p0 ≤ 255) (b1 : 0 ≤ p1 ∧ p1 ≤ 255) (hv : v < 18446744073709551616)
    (p k : Nat) (hp : p0 % n = (p : Int)) (hk : 1 + p1 % 8 = (k : Int)) (hx : p + k ≤ n) (r : Bool) (hr : decide (v < 256 ^ k) = r) :
    Calls Try.prog 5 #[.slice A n c, .agg #[.int .u8 p0, .int .u8 p1], .int .u64 v] w fun e w' => e = .returned (.bool true) ∧ Below w.heap.size w w' := by
  have HB := Lib.hid hB
  have HP := Lib.hid hp
  have HK := Lib.hid hk
  have HR := Lib.hid hr
  clear hr
  have hk8 : k ≤ 8 := by omega
  have hk1 : 1 ≤ k := by omega
  have hpn : p < n := by
    have := Int.emod_lt_of_pos p0 (show (0 : Int) < n by omega)
    omega
  clear hB hp hk
  go_enter Try.func5, Try.ntmps5
  go_wp2_with fail
  refine (awake_any _).mono ?_
  rintro e w1 ⟨rfl, hb⟩
  have T1 := Lib.hid ((Whole.new w 49 #[.int .u8 p0, .int .u8 p1] rfl).below' hb)
  have B1 := Lib.hid (((Below.refl _ _).alloc (Nat.le_refl _) _).trans (hb.mono (by simp)))
  have L1 := Lib.hid (HB.out.below B1.out)
  clear hb
  have c0 := T1.out.cell 0
  have c1 := T1.out.cell 1
  have d0 : ((n : Int) == 0) = false := by simp; omega
  obtain ⟨b00, b01⟩ := b0
  obtain ⟨b10, b11⟩ := b1
  go_wp2_with fail
  go_quiet (fail)
  go_wp2_with fail
  rw [HP.out, HK.out]
  clear c0 c1 T1
  refine (put_yes A n c bs _ p k v _ (L1.out.drewN _) (by omega) hk1 hk8 hx hv).mono ?_
  rintro e w2 ⟨A2, c2, rfl, ho, hb⟩
  have hbl := HB.out.len
  obtain ⟨g, cap, hv1, hg, hlt⟩ := ho.form h1
  injection hv1 with e1 _ e2
  subst e1 e2
  have hcap : n ≤ c2 ∧ c2 ≤ 9223372036854775807 := by
    rcases ho.2 with ⟨h, _⟩ | ⟨g', c', cur, h, _, _, h1, h2, _⟩
    · cases h
    · injection h with _ _ h3
      subst h3
      unfold maxLen at h2
      exact ⟨h1, h2⟩
  obtain ⟨q1, q2⟩ := hcap
  have HO := Lib.hid (Bs.of_own ho)
  have L2 := Lib.hid ((L1.out.drewN nq).below hb)
  have B2 := Lib.hid ((B1.out.drewN' nq).trans (hb.mono (by have := B1.out.size; simpa using this)))
  clear ho hb
  go_wp2_with fail
  refine (get_yes _ n c2 _ _ p k w2 HO.out (by omega) hk1 hk8 hx).mono ?_
  rw [getD_over bs p v k (by omega)]
  rintro e w3 ⟨rfl, rfl⟩
  obtain ⟨x, hxv⟩ : ∃ x, v % 256 ^ k = x := ⟨_, rfl⟩
  rw [hxv]
  have hxlt : x < 256 ^ k := by rw [← hxv]; exact Nat.mod_lt _ (Nat.pow_pos (by omega))
  have h8 := pow_le8 k hk8
  have FX := Lib.hid (show decide (x < 256 ^ k) = true by simp [hxlt])
  have x64 : x < 18446744073709551616 := by omega
  have XV := Lib.hid (show v < 256 ^ k → x = v from fun h => by rw [← hxv, Nat.mod_eq_of_lt h])
  clear hxv hxlt h8
  obtain ⟨ab, ao, rfl, _, _⟩ := HB.out.2 h1
  have k1 : ∀ m, (convert 22 9 (.slice (some ⟨g, 0, none⟩) p c2)).run Try.prog (w2.drewN m) = .ok (.string ⟨(bs.take p).toArray⟩) (w2.drewN m) := fun m => by
    have := str_of c2 ((HO.out.take (k := p) (by omega)).drewN m)
    rwa [take_over _ _ _ (by omega)] at this
  have k2 : ∀ m, (convert 22 9 (.slice (some ⟨ab, ao, none⟩) p c)).run Try.prog (w2.drewN m) = .ok (.string ⟨(bs.take p).toArray⟩) (w2.drewN m) := fun m => str_of c ((L2.out.take (k := p) (by omega)).drewN m)
  have k3 : ∀ m, (convert 22 9 (.slice (if c2 = p + k then some ⟨g, 0, none⟩ else some ⟨g, p + k, none⟩) (n - (p + k)) (c2 - (p + k)))).run Try.prog (w2.drewN m) = .ok (.string ⟨(bs.drop (p + k)).toArray⟩) (w2.drewN m) := fun m => by
    have := str_of (c2 - (p + k)) ((HO.out.cut (k := p + k) (c := c2) hx (by omega)).drewN m)
    rwa [drop_over _ _ _ _ (by omega), Nat.zero_add] at this
  have k4 : ∀ m, (convert 22 9 (.slice (if c = p + k then some ⟨ab, ao, none⟩ else some ⟨ab, ao + (p + k), none⟩) (n - (p + k)) (c - (p + k)))).run Try.prog (w2.drewN m) = .ok (.string ⟨(bs.drop (p + k)).toArray⟩) (w2.drewN m) := fun m =>
    str_of (c - (p + k)) ((L2.out.cut (k := p + k) (c := c) hx hc).drewN m)
  have s1 : (p : Int) ≤ c2 := by omega
  have s2 : (p : Int) ≤ c := by omega
  have s3 : (p : Int) + k ≤ n := by omega
  have s4 : (n : Int) ≤ c := by omega
  have s5 : (n : Int) ≤ c2 := by omega
  clear HO L2 L1 HB hbl hlt d0
  cases r with
  | true =>
    obtain rfl : x = v := XV.out (of_decide_eq_true HR.out)
    go_wp2
    go_quiet ((go_at_call 10; (with_reducible exact Calls.quiet_eq (fits_any x k true _ hk1 hk8 hv HR.out))))
    go_wp2
    all_goals
      go_ret
      exact ⟨rfl, B2.out.drewN' _⟩
  | false =>
    go_wp2
    go_quiet ((first | (go_at_call 10; (with_reducible exact Calls.quiet_eq (fits_any x k true _ hk1 hk8 x64 FX.out))) | (go_at_call 10; (with_reducible exact Calls.quiet_eq (fits_any v k false _ hk1 hk8 hv HR.out)))))
    go_wp2
    all_goals
      go_ret
      exact ⟨rfl, B2.out.drewN' _⟩
theorem back_any (A : Option Addr) (n c : Nat) (bs : List UInt8) (p0 p1 : Int) (v : Nat) (w : World) (hB : Bs w (fun b => b < w.heap.size) A n bs) (hc : n ≤ c) (hcc : c ≤ 9223372036854775807) (b0 : 0 ≤ p0 ∧ p0 ≤ 255) (b1 : 0 ≤ p1 ∧ p1 ≤ 255) (hv : v < 18446744073709551616) :
    Calls Try.prog 5 #[.slice A n c, .agg #[.int .u8 p0, .int .u8 p1], .int .u64 v] w fun e w' => e = .returned (.bool true) ∧ Below w.heap.size w w' := by
  by_cases hh : 1000 < n ∨ n = 0
  · exact back_long A n c bs p0 p1 v w hh
  · have hp := Int.emod_nonneg p0 (show (n : Int) ≠ 0 by omega)
    obtain ⟨p, hp'⟩ := Int.eq_ofNat_of_zero_le hp
    obtain ⟨k, hk'⟩ := Int.eq_ofNat_of_zero_le (show 0 ≤ 1 + p1 % 8 by omega)
    by_cases hx : p + k ≤ n
    · exact back_yes A n c bs p0 p1 v w hB hc hcc (by omega) (by omega) b0 b1 hv p k hp' hk' hx _ rfl
    · exact back_no A n c bs p0 p1 v w hB hc hcc (by omega) (by omega) b0 b1 hv p k hp' hk' (by omega)
end Go.Proofs.Ytjndcehmlegacaa
