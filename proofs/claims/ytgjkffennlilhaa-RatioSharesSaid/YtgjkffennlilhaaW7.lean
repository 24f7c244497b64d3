/- RatioShares. -/
import Derived.Test.YtgjkffennlilhaaW6
namespace Go.Proofs.Ytgjkffennlilhaa
open Go.RowKit

theorem percent_num (p s : Int) (r : Nat) (t m fl k : Nat) (w : World) (HS : Hid (∀ w, Calls Try.prog 8 #[.int .i64 p, .int .i64 s] w fun e w' => e = .returned (.float .f64 r) ∧ w = w')) (HC : Hid (∀ w, Calls Try.prog 18 #[.float .f64 r] w fun e w' => e = .returned (.float .f64 t) ∧ w = w'))
    (HM : ∀ w, (binOp .mul 23 (.float .f64 4636737291354636288) (.float .f64 t)).run Try.prog w = .ok (.float .f64 m) w)
    (HF : Hid (∀ w, Calls Try.prog 26 #[.float .f64 m] w fun e w' => e = .returned (.float .f64 fl) ∧ w = w'))
    (HV : ∀ w, (convert 23 3 (.float .f64 fl)).run Try.prog w = .ok (.int .i64 (k : Nat)) w) : Calls Try.prog 11 #[.int .i64 p, .int .i64 s] w fun e w' => e = .returned (.int .i64 (k : Nat)) ∧ Below w.heap.size w w' := by
  go_enter Try.func11, Try.ntmps11
  go_wp2_with fail
  refine (HS.out _).mono ?_
  rintro e wx ⟨rfl, rfl⟩
  have HB := Lib.hid (Below.refl w.heap.size w)
  go_wp2_with fail
  refine (HC.out _).mono ?_
  rintro e wx ⟨rfl, rfl⟩
  go_wp2_with fail
  refine (HF.out _).mono ?_
  rintro e wx ⟨rfl, rfl⟩
  go_wp2
  go_ret
  exact ⟨rfl, HB.out⟩
theorem percent_nan (p s : Int) (t m fl k : Nat) (w : World) (HS : Hid (∀ w, Calls Try.prog 8 #[.int .i64 p, .int .i64 s] w (NanP w))) (HC : Hid (∀ x w, fnan x = true → Calls Try.prog 18 #[.float .f64 x] w fun e w' => e = .returned (.float .f64 t) ∧ w = w'))
    (HM : ∀ w, (binOp .mul 23 (.float .f64 4636737291354636288) (.float .f64 t)).run Try.prog w = .ok (.float .f64 m) w)
    (HF : Hid (∀ w, Calls Try.prog 26 #[.float .f64 m] w fun e w' => e = .returned (.float .f64 fl) ∧ w = w'))
    (HV : ∀ w, (convert 23 3 (.float .f64 fl)).run Try.prog w = .ok (.int .i64 (k : Nat)) w) : Calls Try.prog 11 #[.int .i64 p, .int .i64 s] w fun e w' => e = .returned (.int .i64 (k : Nat)) ∧ Below w.heap.size w w' := by
  go_enter Try.func11, Try.ntmps11
  go_wp2_with fail
  refine (HS.out _).mono ?_
  rintro e w1 ⟨⟨x, rfl, hn, -⟩, hB⟩
  have HB := Lib.hid hB
  have HC := Lib.hid (fun w => HC.out x w hn)
  clear hn hB
  go_wp2_with fail
  refine (HC.out _).mono ?_
  rintro e wx ⟨rfl, rfl⟩
  go_wp2_with fail
  refine (HF.out _).mono ?_
  rintro e wx ⟨rfl, rfl⟩
  go_wp2
  go_ret
  exact ⟨rfl, HB.out⟩
set_option maxHeartbeats 1000000 in
theorem shares_ss (p s : Int) (a b r v t m fl k : Nat) (W : World) (ha : Conv p a) (hb : Conv s b) (hd : FloatKind.f64.format.div a b = some r) (hv : FloatKind.f64.format.sub 4607182418800017408 r = some v) (hvb : v < 18446744073709551616) (ht : fclamp r = t) (hrb : r < 18446744073709551616) 
    (HM : ∀ w, (binOp .mul 23 (.float .f64 4636737291354636288) (.float .f64 t)).run Try.prog w = .ok (.float .f64 m) w)
    (HF : Hid (∀ w, Calls Try.prog 26 #[.float .f64 m] w fun e w' => e = .returned (.float .f64 fl) ∧ w = w'))
    (HV : ∀ w, (convert 23 3 (.float .f64 fl)).run Try.prog w = .ok (.int .i64 (k : Nat)) w)
    (HI : ∀ w, (convert 23 3 (.float .f64 m)).run Try.prog w = .ok (.int .i64 (k : Nat)) w) :
    Calls Try.prog 3 #[.int .i64 p, .int .i64 s] W fun e w' => e = .returned (.bool true) ∧ Below W.heap.size W w' := by
  have HS := Lib.hid (fun w => share_some p s a b r w ha hb hd)
  have hq : ∀ w, (binOp .quo 23 (.float .f64 a) (.float .f64 b)).run Try.prog w = .ok (.float .f64 r) w := fun w => run_float_arith (op := .quo) (t := 23) (k := .f64) (x := a) (y := b) (r := r) (h := hd) ..
  have SR := Lib.hid (fun w => same_self r w hrb)
  have CA := Lib.hid (fun w => class_any r w hrb)
  have CP := Lib.hid (fun w => class_page r w hrb)
  have KA := fun w => clamp_any r w
  have KP := fun w => clamp_page r w
  rw [ht] at KA KP
  have KA := Lib.hid KA
  have KP := Lib.hid KP
  have HP := Lib.hid (fun w => percent_num p s r t m fl k w HS KA HM HF HV)
  obtain ⟨c, hc⟩ : ∃ c, cls r = c := ⟨_, rfl⟩
  rw [hc] at CA CP
  have ec : (c == c) = true := by simp
  have HN := Lib.hid (fun w => saved_some p s r v w HS hv)
  have hs : ∀ w, (binOp .sub 23 (.float .f64 4607182418800017408) (.float .f64 r)).run Try.prog w = .ok (.float .f64 v) w := fun w => run_float_arith (op := .sub) (t := 23) (k := .f64) (x := 4607182418800017408) (y := r) (r := v) (h := hv) ..
  have SV := Lib.hid (fun w => same_self v w hvb)
  clear hd hv hvb hrb ht hc
  have ek : (k == k) = true := by simp
  have ek' : ((k : Int) == (k : Int)) = true := by simp
  unfold Conv at ha hb
  go_enter Try.func3, Try.ntmps3
  go_wp2_with fail
  refine (awake_any W).mono ?_
  rintro e w1 ⟨rfl, hb1⟩
  have HB := Lib.hid hb1
  clear hb1
  go_wp2_with fail
  refine (HS.out _).mono ?_
  rintro e wx ⟨rfl, rfl⟩
  go_wp2_with fail
  refine (SR.out _).mono ?_
  rintro e wx ⟨rfl, rfl⟩
  go_wp2_with fail
  refine (HN.out _).mono ?_
  rintro e wx ⟨rfl, rfl⟩
  go_wp2_with fail
  refine (SV.out _).mono ?_
  rintro e wx ⟨rfl, rfl⟩
  go_wp2_with fail
  refine (HP.out _).mono ?_
  rintro e w5 ⟨rfl, hB5⟩
  have HB := Lib.hid (HB.out.trans (hB5.mono HB.out.size))
  clear hB5
  go_wp2_with fail
  refine (KP.out _).mono ?_
  rintro e wx ⟨rfl, rfl⟩
  go_wp2_with fail
  refine (CA.out _).mono ?_
  rintro e wx ⟨rfl, rfl⟩
  go_wp2_with fail
  refine (CP.out _).mono ?_
  rintro e wx ⟨rfl, rfl⟩
  go_wp2
  go_ret
  exact ⟨rfl, HB.out⟩
set_option maxHeartbeats 1000000 in
theorem shares_sn (p s : Int) (a b r t m fl k : Nat) (W : World) (ha : Conv p a) (hb : Conv s b) (hd : FloatKind.f64.format.div a b = some r) (hv : FloatKind.f64.format.sub 4607182418800017408 r = none) (ht : fclamp r = t) (hrb : r < 18446744073709551616) 
    (HM : ∀ w, (binOp .mul 23 (.float .f64 4636737291354636288) (.float .f64 t)).run Try.prog w = .ok (.float .f64 m) w)
    (HF : Hid (∀ w, Calls Try.prog 26 #[.float .f64 m] w fun e w' => e = .returned (.float .f64 fl) ∧ w = w'))
    (HV : ∀ w, (convert 23 3 (.float .f64 fl)).run Try.prog w = .ok (.int .i64 (k : Nat)) w)
    (HI : ∀ w, (convert 23 3 (.float .f64 m)).run Try.prog w = .ok (.int .i64 (k : Nat)) w) :
    Calls Try.prog 3 #[.int .i64 p, .int .i64 s] W fun e w' => e = .returned (.bool true) ∧ Below W.heap.size W w' := by
  have HS := Lib.hid (fun w => share_some p s a b r w ha hb hd)
  have hq : ∀ w, (binOp .quo 23 (.float .f64 a) (.float .f64 b)).run Try.prog w = .ok (.float .f64 r) w := fun w => run_float_arith (op := .quo) (t := 23) (k := .f64) (x := a) (y := b) (r := r) (h := hd) ..
  have SR := Lib.hid (fun w => same_self r w hrb)
  have CA := Lib.hid (fun w => class_any r w hrb)
  have CP := Lib.hid (fun w => class_page r w hrb)
  have KA := fun w => clamp_any r w
  have KP := fun w => clamp_page r w
  rw [ht] at KA KP
  have KA := Lib.hid KA
  have KP := Lib.hid KP
  have HP := Lib.hid (fun w => percent_num p s r t m fl k w HS KA HM HF HV)
  obtain ⟨c, hc⟩ : ∃ c, cls r = c := ⟨_, rfl⟩
  rw [hc] at CA CP
  have ec : (c == c) = true := by simp
  have HN := Lib.hid (fun w => saved_none p s r w HS hv)
  obtain ⟨nv, hnv, hs⟩ := nan_sub _ _ hv
  have HNV := Lib.hid hnv
  clear hd hv hrb ht hc hnv
  have ek : (k == k) = true := by simp
  have ek' : ((k : Int) == (k : Int)) = true := by simp
  unfold Conv at ha hb
  go_enter Try.func3, Try.ntmps3
  go_wp2_with fail
  refine (awake_any W).mono ?_
  rintro e w1 ⟨rfl, hb1⟩
  have HB := Lib.hid hb1
  clear hb1
  go_wp2_with fail
  refine (HS.out _).mono ?_
  rintro e wx ⟨rfl, rfl⟩
  go_wp2_with fail
  refine (SR.out _).mono ?_
  rintro e wx ⟨rfl, rfl⟩
  go_wp2_with fail
  refine (HN.out _).mono ?_
  rintro e w3 ⟨⟨z, rfl, hz1, hz2⟩, hB3⟩
  have HB := Lib.hid (HB.out.trans (hB3.mono HB.out.size))
  have HZ := Lib.hid (And.intro hz1 hz2)
  clear hB3 hz1 hz2
  go_wp2_with fail
  obtain ⟨u, hu⟩ : ∃ u, nv w3 = u := ⟨_, rfl⟩
  have huu := HNV.out w3
  rw [hu] at huu ⊢
  have HU := Lib.hid huu
  have HB := Lib.hid (HB.out.drew)
  clear hu huu
  refine (same_nan z u _ HZ.out.1 HU.out.1 HZ.out.2 HU.out.2).mono ?_
  rintro e wx ⟨rfl, rfl⟩
  go_wp2_with fail
  refine (HP.out _).mono ?_
  rintro e w5 ⟨rfl, hB5⟩
  have HB := Lib.hid (HB.out.trans (hB5.mono HB.out.size))
  clear hB5
  go_wp2_with fail
  refine (KP.out _).mono ?_
  rintro e wx ⟨rfl, rfl⟩
  go_wp2_with fail
  refine (CA.out _).mono ?_
  rintro e wx ⟨rfl, rfl⟩
  go_wp2_with fail
  refine (CP.out _).mono ?_
  rintro e wx ⟨rfl, rfl⟩
  go_wp2
  go_ret
  exact ⟨rfl, HB.out⟩
set_option maxHeartbeats 1000000 in
theorem shares_n (p s : Int) (a b t m fl k : Nat) (W : World) (ha : Conv p a) (hb : Conv s b) (hd : FloatKind.f64.format.div a b = none) (ht : t = 0) 
    (HM : ∀ w, (binOp .mul 23 (.float .f64 4636737291354636288) (.float .f64 t)).run Try.prog w = .ok (.float .f64 m) w)
    (HF : Hid (∀ w, Calls Try.prog 26 #[.float .f64 m] w fun e w' => e = .returned (.float .f64 fl) ∧ w = w'))
    (HV : ∀ w, (convert 23 3 (.float .f64 fl)).run Try.prog w = .ok (.int .i64 (k : Nat)) w)
    (HI : ∀ w, (convert 23 3 (.float .f64 m)).run Try.prog w = .ok (.int .i64 (k : Nat)) w) :
    Calls Try.prog 3 #[.int .i64 p, .int .i64 s] W fun e w' => e = .returned (.bool true) ∧ Below W.heap.size W w' := by
  subst ht
  have HS := Lib.hid (fun w => share_none p s a b w ha hb hd)
  have HN := Lib.hid (fun w => saved_nan p s w HS)
  have hcl : ∀ x, fnan x = true → fclamp x = 0 := fun x hx => by unfold fclamp flt; simp [hx]
  have HCL := Lib.hid hcl
  have HC : Hid (∀ x w, fnan x = true → Calls Try.prog 18 #[.float .f64 x] w fun e w' => e = .returned (.float .f64 0) ∧ w = w') := Lib.hid (fun x w hx => by have := clamp_any x w; rwa [hcl x hx] at this)
  have HP := Lib.hid (fun w => percent_nan p s 0 m fl k w HS HC HM HF HV)
  obtain ⟨nv, hnv, hq⟩ := nan_quo a b hd
  have HNV := Lib.hid hnv
  clear hd hnv hcl
  have ek : (k == k) = true := by simp
  have ek' : ((k : Int) == (k : Int)) = true := by simp
  unfold Conv at ha hb
  go_enter Try.func3, Try.ntmps3
  go_wp2_with fail
  refine (awake_any W).mono ?_
  rintro e w1 ⟨rfl, hb1⟩
  have HB := Lib.hid hb1
  clear hb1
  go_wp2_with fail
  obtain ⟨x, hx⟩ : ∃ x, nv w1 = x := ⟨_, rfl⟩
  have hxx := HNV.out w1
  rw [hx] at hxx ⊢
  have HX := Lib.hid hxx
  obtain ⟨nv2, hnv2, hs⟩ := nan_sub _ _ (sub_nan x hxx.1)
  have HNV2 := Lib.hid hnv2
  have KP := fun w => clamp_page x w
  rw [HCL.out x hxx.1] at KP
  have KP := Lib.hid KP
  have CP := fun w => class_page x w hxx.2
  rw [cls_nan x hxx.1] at CP
  have CP := Lib.hid CP
  have HB := Lib.hid (HB.out.drew)
  clear hx hxx hnv2
  refine (HS.out _).mono ?_
  rintro e w2 ⟨⟨y, rfl, hy1, hy2⟩, hB2⟩
  have HB := Lib.hid (HB.out.trans (hB2.mono HB.out.size))
  have HY := Lib.hid (And.intro hy1 hy2)
  have CA := fun w => class_any y w hy2
  rw [cls_nan y hy1] at CA
  have CA := Lib.hid CA
  clear hB2 hy1 hy2
  go_wp2_with fail
  refine (same_nan y x _ HY.out.1 HX.out.1 HY.out.2 HX.out.2).mono ?_
  rintro e wx ⟨rfl, rfl⟩
  go_wp2_with fail
  refine (HN.out _).mono ?_
  rintro e w3 ⟨⟨z, rfl, hz1, hz2⟩, hB3⟩
  have HB := Lib.hid (HB.out.trans (hB3.mono HB.out.size))
  have HZ := Lib.hid (And.intro hz1 hz2)
  clear hB3 hz1 hz2
  go_wp2_with fail
  obtain ⟨u, hu⟩ : ∃ u, nv2 w3 = u := ⟨_, rfl⟩
  have huu := HNV2.out w3
  rw [hu] at huu ⊢
  have HU := Lib.hid huu
  have HB := Lib.hid (HB.out.drew)
  clear hu huu
  refine (same_nan z u _ HZ.out.1 HU.out.1 HZ.out.2 HU.out.2).mono ?_
  rintro e wx ⟨rfl, rfl⟩
  go_wp2_with fail
  refine (HP.out _).mono ?_
  rintro e w5 ⟨rfl, hB5⟩
  have HB := Lib.hid (HB.out.trans (hB5.mono HB.out.size))
  clear hB5
  go_wp2_with fail
  refine (KP.out _).mono ?_
  rintro e wx ⟨rfl, rfl⟩
  go_wp2_with fail
  refine (CA.out _).mono ?_
  rintro e wx ⟨rfl, rfl⟩
  go_wp2_with fail
  refine (CP.out _).mono ?_
  rintro e wx ⟨rfl, rfl⟩
  go_wp2
  go_ret
  exact ⟨rfl, HB.out⟩
theorem shares_law (p s : Int) (W : World) : Calls Try.prog 3 #[.int .i64 p, .int .i64 s] W fun e w' => e = .returned (.bool true) ∧ Below W.heap.size W w' := by
  obtain ⟨a, ha⟩ := conv_any p
  obtain ⟨b, hb⟩ := conv_any s
  have core : ∀ t m : Nat, FloatKind.f64.format.mul 4636737291354636288 t = some m → m ≤ 4643211215818981376 → ∃ fl k : Nat,
      (∀ w, (binOp .mul 23 (.float .f64 4636737291354636288) (.float .f64 t)).run Try.prog w = .ok (.float .f64 m) w) ∧
      (∀ w, Calls Try.prog 26 #[.float .f64 m] w fun e w' => e = .returned (.float .f64 fl) ∧ w = w') ∧
      (∀ w, (convert 23 3 (.float .f64 fl)).run Try.prog w = .ok (.int .i64 (k : Nat)) w) ∧
      (∀ w, (convert 23 3 (.float .f64 m)).run Try.prog w = .ok (.int .i64 (k : Nat)) w) := by
    intro t m hm hb
    obtain ⟨mg, i, k, hr, hk, h1, h2⟩ := small_word m hb
    refine ⟨Ieee.double.nearest false k 0, k, fun w => run_float_arith (op := .mul) (t := 23) (k := .f64) (x := 4636737291354636288) (y := t) (r := m) (h := hm) .., fun w => floor_gen m mg i k w hr h2, fun w => ?_, fun w => ?_⟩
    · exact run_convert_float_int (src := 23) (dst := 3) (s := .f64) (k := .i64) (b := Ieee.double.nearest false k 0) (n := (k : Int)) (hs := by kernel_rfl) (hd := Try.underlying3) (h := whole_back k hk) ..
    · exact run_convert_float_int (src := 23) (dst := 3) (s := .f64) (k := .i64) (b := m) (n := (k : Int)) (hs := by kernel_rfl) (hd := Try.underlying3) (h := to_int m mg i k hr h1 hk) ..
  cases hd : FloatKind.f64.format.div a b with
  | none =>
    obtain ⟨fl, k, c1, c2, c3, c4⟩ := core 0 0 (by decide +kernel) (by decide)
    exact shares_n p s a b 0 0 fl k W ha hb hd rfl c1 (Lib.hid c2) c3 c4
  | some r =>
    have hrb : r < 18446744073709551616 := Ieee.double.div_lt hd
    obtain ⟨m, hm, hmb⟩ := clamp_mul r
    obtain ⟨fl, k, c1, c2, c3, c4⟩ := core (fclamp r) m hm hmb
    cases hv : FloatKind.f64.format.sub 4607182418800017408 r with
    | none => exact shares_sn p s a b r (fclamp r) m fl k W ha hb hd hv rfl hrb c1 (Lib.hid c2) c3 c4
    | some v => exact shares_ss p s a b r v (fclamp r) m fl k W ha hb hd hv (Ieee.double.sub_lt hv) rfl hrb c1 (Lib.hid c2) c3 c4
end Go.Proofs.Ytgjkffennlilhaa
