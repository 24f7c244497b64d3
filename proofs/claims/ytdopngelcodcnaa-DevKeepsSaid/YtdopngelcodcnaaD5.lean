/- DevKeeps: the law itself. -/
import Derived.Test.YtdopngelcodcnaaD4
namespace Go.Proofs.Ytdopngelcodcnaa
open Go.RowKit

theorem over_all (n : Nat) (D : List UInt8) (h : D.length = n) : overB (List.replicate n 0) 0 D = D := by
  subst h
  simp [overB]
theorem over_mid (D bs : List UInt8) (a : Nat) (h : a + bs.length ≤ D.length) : ((overB D a bs).drop a).take bs.length = bs := by
  unfold overB
  rw [List.append_assoc, List.drop_append_of_le_length (by simp; omega), List.drop_eq_nil_of_le (by simp; omega), List.nil_append, List.take_append_of_le_length (Nat.le_refl _), List.take_of_length_le (Nat.le_refl _)]
theorem over_low (D bs : List UInt8) (a : Nat) (h : a + bs.length ≤ D.length) : (overB D a bs).take a = D.take a := by
  unfold overB
  rw [List.append_assoc, List.take_append_of_le_length (by simp; omega), List.take_of_length_le (by simp; omega)]
theorem over_high (D bs : List UInt8) (a : Nat) (h : a + bs.length ≤ D.length) : (overB D a bs).drop (a + bs.length) = D.drop (a + bs.length) := by
  unfold overB
  rw [List.drop_append_of_le_length (by simp; omega), List.drop_eq_nil_of_le (by simp; omega), List.nil_append]
theorem bs_add {w : World} {S : Nat → Prop} {A : Option Addr} {n : Nat} {bs : List UInt8} (h : Bs w S A n bs) {k : Nat} (hk : k ≤ n) : Bs w S (A.map (fun x => x.add k)) (n - k) (bs.drop k) := by
  by_cases hz : n - k = 0
  · rw [hz, List.drop_eq_nil_of_le (by rw [h.len]; omega)]
    exact Bs.empty _ _ _
  · obtain ⟨b, off, rfl, _⟩ := h.2 (by omega)
    have h2 := h.drop hk
    rw [Option.map_some, addr_add]
    exact h2
theorem bs_keep {w w' : World} {S : Nat → Prop} {A : Option Addr} {n g : Nat} {bs : List UInt8} (h : Bs w S A n bs) (hC : Chg w w' (fun b => b = g)) (hne : ∀ b, S b → b ≠ g) : Bs w' S A n bs := Lst.keep h hC.size (fun b hl hs => hC.2.2.2.2 b hl (hne b hs))
theorem keep_below {w w' : World} {B g h : Nat} (hb : Chg w w' (fun b => b = g ∨ b = h)) (hg : B ≤ g) (hh : B ≤ h) (hB : B ≤ w.heap.size) : Below B w w' := Chg.below (Below.refl _ _) hb (fun k hk h1 => by rcases h1 with h1 | h1 <;> omega) hB
theorem keep_below1 {w w' : World} {B g : Nat} (hb : Chg w w' (fun b => b = g)) (hg : B ≤ g) (hB : B ≤ w.heap.size) : Below B w w' := Chg.below (Below.refl _ _) hb (fun k hk h1 => by omega) hB
set_option maxRecDepth 100000 in
set_option maxHeartbeats 8000000 in
theorem keeps_law (A B : Option Addr) (n m c d : Nat) (D bs : List UInt8) (at' : Int) (W : World) (hA : Bs W (fun b => b < W.heap.size) A n D) (hB : Bs W (fun b => b < W.heap.size) B m bs) (hnc : n ≤ c) (hc : c ≤ 9223372036854775807) (hat : at' ≤ 9223372036854775807) (hat0 : -9223372036854775808 ≤ at') :
    Calls Try.prog 4 #[.slice A n c, .slice B m d, .int .i64 at'] W fun e w' => e = .returned (.bool true) ∧ Below W.heap.size W w' := by
  have HDL := Lib.hid hA.len
  have HBL := Lib.hid hB.len
  have HA := Lib.hid hA
  have HB := Lib.hid hB
  clear hA hB
  go_enter Try.func4, Try.ntmps4
  go_wp2_with fail
  refine (awake_any _).mono ?_
  rintro e w1 ⟨rfl, hb1⟩
  have HW := Lib.hid hb1
  clear hb1
  by_cases h1 : 500 < n
  · have d1 : decide ((500 : Int) < (n : Int)) = true := by simp; omega
    go_wp2
    go_ret
    exact ⟨rfl, HW.out⟩
  have d1 : decide ((500 : Int) < (n : Int)) = false := by simp; omega
  by_cases h2 : 500 < m
  · have d2 : decide ((500 : Int) < (m : Int)) = true := by simp; omega
    go_wp2
    go_ret
    exact ⟨rfl, HW.out⟩
  have d2 : decide ((500 : Int) < (m : Int)) = false := by simp; omega
  go_wp2_with fail
  refine (new_any n w1 (by omega)).mono ?_
  rintro e w2 ⟨g, h, rfl, hV, hb⟩
  have hg : W.heap.size ≤ g := Nat.le_trans HW.out.size hV.1
  have hh : W.heap.size ≤ h := Nat.le_trans HW.out.size hV.2.1
  have HW2 := Lib.hid (HW.out.trans (hb.mono HW.out.size))
  have HV := Lib.hid (show Dv w2 W.heap.size g h (List.replicate n 0) 0 0 from ⟨hg, hh, hV.2.2⟩)
  clear hV hb HW d1 d2
  go_wp2_with fail
  refine (write_any g h _ 0 0 0 W.heap.size A n c D _ _ HV.out (HA.out.below HW2.out) (by simp; omega) (by simp) (by omega)).mono ?_
  rintro e w3 ⟨rfl, hV, hC⟩
  rw [over_all n D HDL.out] at hV
  have HW3 := Lib.hid (HW2.out.trans (keep_below hC hg hh HW2.out.size))
  have HV3 := Lib.hid hV
  clear hV hC HV HW2
  by_cases hin : inB n at' m = true
  · have h5 := of_decide_eq_true hin
    obtain ⟨h51, h52, h53, h54⟩ := h5
    obtain ⟨a, rfl⟩ := Int.eq_ofNat_of_zero_le h52
    have ham : a + m ≤ n := by omega
    have HIN := Lib.hid hin
    clear hin h51 h52 h53 h54
    go_wp2_with fail
    refine (write_any g h _ _ _ a W.heap.size B m d bs _ _ HV3.out (HB.out.below HW3.out) (by rw [HDL.out]; omega) (by rw [HDL.out]; omega) (by omega)).mono ?_
    rintro e w4 ⟨rfl, hV, hC⟩
    have HW4 := Lib.hid (HW3.out.trans (keep_below hC hg hh HW3.out.size))
    have hol : (overB D a bs).length = n := by rw [overB_len _ _ _ (by rw [HDL.out, HBL.out]; omega), HDL.out]
    have HOL := Lib.hid hol
    have HV4 := Lib.hid hV
    have HM := Lib.hid (by have := over_mid D bs a (by rw [HDL.out, HBL.out]; omega); rwa [HBL.out] at this)
    have HLo := Lib.hid (over_low D bs a (by rw [HDL.out, HBL.out]; omega))
    have HHi := Lib.hid (by have := over_high D bs a (by rw [HDL.out, HBL.out]; omega); rwa [HBL.out] at this)
    generalize overB D a bs = E at HV4 HOL HM HLo HHi
    clear hV hC HV3 HW3 hol
    go_wp2_with fail
    refine (read_any g h E _ _ a m W.heap.size _ HV4.out (by rw [HOL.out]; omega) (by rw [HOL.out]; omega) (by omega)).mono ?_
    rintro e w5 ⟨A5, c5, rfl, ho, hV, hC⟩
    rw [HM.out] at ho
    have O5 := Lib.hid (Bs.of_own ho)
    have hb5 := Chg.below (Below.refl _ _) hC (B := W.heap.size) (fun k hk h1 => by omega) HW4.out.size
    have HW5 := Lib.hid (HW4.out.trans hb5)
    have HV5 := Lib.hid hV
    have HG4 := Lib.hid HV4.out.2.2.2.lt
    clear ho hV hC hb5 HV4 HW4
    go_wp2_with fail
    refine (read_any g h E _ _ 0 a W.heap.size _ HV5.out (by rw [HOL.out]; omega) (by rw [HOL.out]; omega) (by omega)).mono ?_
    rintro e w6 ⟨A6, c6, rfl, ho, hV, hC⟩
    rw [List.drop_zero, HLo.out] at ho
    have hg4 : g < w4.heap.size := HG4.out
    have O5 := Lib.hid (bs_keep O5.out hC (fun b hb => by omega))
    have hg5 : g < w5.heap.size := HV5.out.2.2.2.lt
    have O6 := Lib.hid (Bs.of_own ho)
    have hb6 := Chg.below (Below.refl _ _) hC (B := W.heap.size) (fun k hk h1 => by omega) HW5.out.size
    have HW6 := Lib.hid (HW5.out.trans hb6)
    have HV6 := Lib.hid hV
    clear ho hV hC hb6 HV5 HW5
    obtain ⟨am, ham'⟩ : ∃ am, a + m = am := ⟨_, rfl⟩
    have z1 : (a : Int) + (m : Int) = (am : Nat) := by omega
    obtain ⟨r, hr⟩ : ∃ r, n - am = r := ⟨_, rfl⟩
    have z2 : (n : Int) - (a : Int) - (m : Int) = (r : Nat) := by omega
    have hamn : am ≤ n := by omega
    rw [ham'] at HHi
    have HAM := Lib.hid ham'
    have HRR := Lib.hid hr
    clear ham' hr
    go_wp2_with fail
    refine (read_any g h E _ _ am r W.heap.size _ HV6.out (by rw [HOL.out]; omega) (by rw [HOL.out]; have := HRR.out; omega) (by omega)).mono ?_
    rintro e w7 ⟨A7, c7, rfl, ho, hV, hC⟩
    rw [List.take_of_length_le (by rw [List.length_drop, HOL.out, HRR.out]; exact Nat.le_refl _), HHi.out] at ho
    have O5 := Lib.hid (bs_keep O5.out hC (fun b hb => by omega))
    have O6 := Lib.hid (bs_keep O6.out hC (fun b hb => by omega))
    have O7 := Lib.hid (Bs.of_own ho)
    have hb7 := Chg.below (Below.refl _ _) hC (B := W.heap.size) (fun k hk h1 => by omega) HW6.out.size
    have HW7 := Lib.hid (HW6.out.trans hb7)
    clear ho hV hC hb7 HV6 HW6
    have k1 : ∀ q, (convert 29 9 (.slice A5 m c5)).run Try.prog (w7.drewN q) = .ok (.string ⟨bs.toArray⟩) (w7.drewN q) := fun q => str_of c5 (O5.out.drewN q)
    have k2 : ∀ q, (convert 29 9 (.slice B m d)).run Try.prog (w7.drewN q) = .ok (.string ⟨bs.toArray⟩) (w7.drewN q) := fun q => str_of d ((HB.out.below HW7.out).drewN q)
    have k3 : ∀ q, (convert 29 9 (.slice A6 a c6)).run Try.prog (w7.drewN q) = .ok (.string ⟨(D.take a).toArray⟩) (w7.drewN q) := fun q => str_of c6 (O6.out.drewN q)
    have k4 : ∀ q, (convert 29 9 (.slice A a c)).run Try.prog (w7.drewN q) = .ok (.string ⟨(D.take a).toArray⟩) (w7.drewN q) := fun q => str_of c (((HA.out.below HW7.out).take (k := a) (by omega)).drewN q)
    have k5 : ∀ q, (convert 29 9 (.slice A7 r c7)).run Try.prog (w7.drewN q) = .ok (.string ⟨(D.drop am).toArray⟩) (w7.drewN q) := fun q => str_of c7 (O7.out.drewN q)
    generalize D.take a = X1 at k3 k4
    have i1 : (a : Int) ≤ (c : Int) := by omega
    have i2 : (am : Int) ≤ (n : Int) := by omega
    have hr2 : n - am = r := HRR.out
    by_cases hcp : c = am
    · subst hcp
      have k6 : ∀ q A' c', (convert 29 9 (.slice A' r c')).run Try.prog (w7.drewN q) = .ok (.string ⟨(D.drop c).toArray⟩) (w7.drewN q) := fun q A' c' => by
        have hr0 : r = 0 := by omega
        rw [hr0, List.drop_eq_nil_of_le (by rw [HDL.out]; omega)]
        exact str_of c' (Bs.empty _ (fun _ => True) A')
      generalize D.drop c = X2 at k5 k6
      go_wp2
      go_quiet (fail)
      go_wp2
      go_ret
      exact ⟨rfl, HW7.out.drewN' _⟩
    · have hcp' : ¬ am = c := fun e => hcp e.symm
      have k6 : ∀ q, (convert 29 9 (.slice (A.map (fun x => x.add am)) r (c - am))).run Try.prog (w7.drewN q) = .ok (.string ⟨(D.drop am).toArray⟩) (w7.drewN q) := fun q => str_of (c - am) (by
        have h7 := bs_add ((HA.out.below HW7.out).drewN q) (k := am) (by omega)
        rwa [hr2] at h7)
      generalize D.drop am = X2 at k5 k6
      go_wp2
      go_quiet (fail)
      go_wp2
      go_ret
      exact ⟨rfl, HW7.out.drewN' _⟩
  · have hin : inB n at' m = false := by simpa using hin
    have HIN := Lib.hid (show inB D.length at' m = false by rw [HDL.out]; exact hin)
    clear hin
    go_wp2_with fail
    refine (write_no g h D _ _ at' W.heap.size B m d w3 HV3.out (by rw [HDL.out]; omega) (by omega) hat hat0 HIN.out).mono ?_
    rintro e w4 ⟨rfl, rfl⟩
    have HALL := Lib.hid (all_any g h D _ _ W.heap.size w3.drew HV3.out (by rw [HDL.out]; omega) (by omega))
    have k1 := str_of c (HA.out.below (HW3.out.drew))
    go_wp2
    go_region_law (first
      | (go_simp
         go_at_call 10
         refine HALL.out.mono ?_
         rintro e wx ⟨rfl, hv, hc⟩
         have HWx := Lib.hid (Below.trans (HW3.out.drew) (keep_below1 hc hg HW3.out.size))
         have k2 := str_of c (HA.out.below HWx.out)
         clear hv hc))
    all_goals
      go_wp2
      go_ret
      exact ⟨rfl, HWx.out⟩
end Go.Proofs.Ytdopngelcodcnaa
