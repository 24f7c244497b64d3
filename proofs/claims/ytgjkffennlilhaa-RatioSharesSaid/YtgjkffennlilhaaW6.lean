/- Shares. -/
import Derived.Test.YtgjkffennlilhaaW5
import Derived.Laws.Cover2
namespace Go.Proofs.Ytgjkffennlilhaa
open Go.RowKit

theorem sub_nan (x : Nat) (h : fnan x = true) : FloatKind.f64.format.sub 4607182418800017408 x = none := by
  change Ieee.double.sub 4607182418800017408 x = none
  unfold Ieee.Format.sub
  rw [one_key.2]
  unfold fnan at h
  cases hx : Ieee.double.read x <;> rw [hx] at h <;> first | (cases h; done) | rfl
theorem nan_quo (a b : Nat) (hd : FloatKind.f64.format.div a b = none) : ∃ nv : World → Nat, (∀ w, fnan (nv w) = true ∧ nv w < 18446744073709551616) ∧ ∀ w, (binOp .quo 23 (.float .f64 a) (.float .f64 b)).run Try.prog w = .ok (.float .f64 (nv w)) w.drew := by
  refine ⟨fun w => (Question.nanBits .f64 a b).cut (w.tape w.drawn (.nanBits .f64 a b)), fun w => nan_cut _, fun w => ?_⟩
  show (Op.floatArith .quo .f64 a b).run Try.prog w = _
  simp only [Op.floatArith, hd, pure_bind]
  simp [go_sem, Question.forced]
theorem nan_sub (a b : Nat) (hd : FloatKind.f64.format.sub a b = none) : ∃ nv : World → Nat, (∀ w, fnan (nv w) = true ∧ nv w < 18446744073709551616) ∧ ∀ w, (binOp .sub 23 (.float .f64 a) (.float .f64 b)).run Try.prog w = .ok (.float .f64 (nv w)) w.drew := by
  refine ⟨fun w => (Question.nanBits .f64 a b).cut (w.tape w.drawn (.nanBits .f64 a b)), fun w => nan_cut _, fun w => ?_⟩
  show (Op.floatArith .sub .f64 a b).run Try.prog w = _
  simp only [Op.floatArith, hd, pure_bind]
  simp [go_sem, Question.forced]
theorem fcmp_nan (x y : Nat) (hx : fnan x = true) (hy : fnan y = true) : fcmp x y = 0 := by
  unfold fcmp
  have e1 : flt x y = false := by unfold flt; simp [hx]
  have e2 : flt y x = false := by unfold flt; simp [hy]
  rw [cls_nan x hx, cls_nan y hy, e1, e2]
  decide
theorem same_nan (x y : Nat) (w : World) (hx : fnan x = true) (hy : fnan y = true) (bx : x < 18446744073709551616) (by' : y < 18446744073709551616) : Calls Try.prog 9 #[.float .f64 x, .float .f64 y] w fun e w' => e = .returned (.bool true) ∧ w = w' := by
  have HX := class_page x w bx
  have HY := class_page y w by'
  have HC := compare_page x y w bx by'
  rw [fcmp_nan x y hx hy] at HC
  rw [cls_nan x hx] at HX
  rw [cls_nan y hy] at HY
  have HX := Lib.hid HX
  have HY := Lib.hid HY
  have HC := Lib.hid HC
  clear hx hy bx by'
  go_enter Try.func9, Try.ntmps9
  go_wp2_with fail
  refine HX.out.mono ?_
  rintro e wx ⟨rfl, rfl⟩
  go_wp2_with fail
  refine HY.out.mono ?_
  rintro e wx ⟨rfl, rfl⟩
  go_wp2_with fail
  refine HC.out.mono ?_
  rintro e wx ⟨rfl, rfl⟩
  go_wp2
  go_ret
  exact ⟨rfl, rfl⟩
/-- Two whole numbers as floats. -/
def Conv (p : Int) (a : Nat) : Prop := ∀ w, (convert 3 23 (.int .i64 p)).run Try.prog w = .ok (.float .f64 a) w
theorem conv_any (p : Int) : ∃ a, Conv p a := ⟨floatOfInt .f64 p, fun w => run_convert_int_float w 3 23 .i64 .f64 p (by kernel_rfl) Try.underlying23⟩
theorem share_some (p s : Int) (a b r : Nat) (w : World) (ha : Conv p a) (hb : Conv s b) (hd : FloatKind.f64.format.div a b = some r) : Calls Try.prog 8 #[.int .i64 p, .int .i64 s] w fun e w' => e = .returned (.float .f64 r) ∧ w = w' := by
  have hq : ∀ w, (binOp .quo 23 (.float .f64 a) (.float .f64 b)).run Try.prog w = .ok (.float .f64 r) w := fun w => run_float_arith (op := .quo) (t := 23) (k := .f64) (x := a) (y := b) (r := r) (h := hd) ..
  unfold Conv at ha hb
  clear hd
  go_enter Try.func8, Try.ntmps8
  go_wp2
  go_ret
  exact ⟨rfl, rfl⟩
def NanP (w : World) (e : Ending) (w' : World) : Prop := (∃ x, e = .returned (.float .f64 x) ∧ fnan x = true ∧ x < 18446744073709551616) ∧ Below w.heap.size w w'
theorem share_none (p s : Int) (a b : Nat) (w : World) (ha : Conv p a) (hb : Conv s b) (hd : FloatKind.f64.format.div a b = none) : Calls Try.prog 8 #[.int .i64 p, .int .i64 s] w (NanP w) := by
  obtain ⟨nv, hv, hq⟩ := nan_quo a b hd
  have HV := Lib.hid hv
  unfold Conv at ha hb
  clear hd hv
  go_enter Try.func8, Try.ntmps8
  go_wp2
  go_ret
  exact ⟨⟨_, rfl, HV.out w⟩, (Below.refl _ _).drew⟩
theorem saved_some (p s : Int) (r v : Nat) (w : World) (HS : Hid (∀ w, Calls Try.prog 8 #[.int .i64 p, .int .i64 s] w fun e w' => e = .returned (.float .f64 r) ∧ w = w')) (hd : FloatKind.f64.format.sub 4607182418800017408 r = some v) : Calls Try.prog 10 #[.int .i64 p, .int .i64 s] w fun e w' => e = .returned (.float .f64 v) ∧ w = w' := by
  have hq : ∀ w, (binOp .sub 23 (.float .f64 4607182418800017408) (.float .f64 r)).run Try.prog w = .ok (.float .f64 v) w := fun w => run_float_arith (op := .sub) (t := 23) (k := .f64) (x := 4607182418800017408) (y := r) (r := v) (h := hd) ..
  clear hd
  go_enter Try.func10, Try.ntmps10
  go_wp2_with fail
  refine (HS.out _).mono ?_
  rintro e wx ⟨rfl, rfl⟩
  go_wp2
  go_ret
  exact ⟨rfl, rfl⟩
theorem saved_none (p s : Int) (r : Nat) (w : World) (HS : Hid (∀ w, Calls Try.prog 8 #[.int .i64 p, .int .i64 s] w fun e w' => e = .returned (.float .f64 r) ∧ w = w')) (hd : FloatKind.f64.format.sub 4607182418800017408 r = none) : Calls Try.prog 10 #[.int .i64 p, .int .i64 s] w (NanP w) := by
  obtain ⟨nv, hv, hq⟩ := nan_sub _ _ hd
  have HV := Lib.hid hv
  clear hd hv
  go_enter Try.func10, Try.ntmps10
  go_wp2_with fail
  refine (HS.out _).mono ?_
  rintro e wx ⟨rfl, rfl⟩
  go_wp2
  go_ret
  exact ⟨⟨_, rfl, HV.out w⟩, (Below.refl _ _).drew⟩
theorem saved_nan (p s : Int) (w : World) (HS : Hid (∀ w, Calls Try.prog 8 #[.int .i64 p, .int .i64 s] w (NanP w))) : Calls Try.prog 10 #[.int .i64 p, .int .i64 s] w (NanP w) := by
  go_enter Try.func10, Try.ntmps10
  go_wp2_with fail
  refine (HS.out _).mono ?_
  rintro e w1 ⟨⟨x, rfl, hn, hb⟩, hB⟩
  have HB := Lib.hid hB
  obtain ⟨nv, hv, hq⟩ := nan_sub _ _ (sub_nan x hn)
  have HV := Lib.hid hv
  clear hv hn hb hB
  go_wp2
  go_ret
  exact ⟨⟨_, rfl, HV.out w1⟩, HB.out.drew⟩
/-- A hundred times what is clamped: the float, and the whole number below it. -/
theorem clamp_mul (r : Nat) : ∃ m, FloatKind.f64.format.mul 4636737291354636288 (fclamp r) = some m ∧ m ≤ 4643211215818981376 := by
  unfold fclamp
  cases h1 : flt 4607182418800017408 r
  · rw [if_neg Bool.false_ne_true]
    cases h2 : flt 0 r
    · rw [if_neg Bool.false_ne_true]
      exact ⟨0, by decide +kernel, by decide⟩
    · rw [if_pos rfl]
      have hn : fnan r = false := by
        unfold flt at h2
        cases h : fnan r
        · rfl
        · simp [h] at h2
      have h0 : 0 < fkey r := by
        have := (flt_num 0 r fkey_zero.2 hn).1 h2
        rwa [fkey_zero.1] at this
      have h3 : ¬ fkey 4607182418800017408 < fkey r := fun h => by
        have := (flt_num _ _ one_key.1 hn).2 h
        rw [h1] at this
        cases this
      exact hundred r hn h0 h3
  · rw [if_pos rfl]
    exact ⟨4636737291354636288, by decide +kernel, by decide⟩
theorem floor_gen (m mg : Nat) (i : Int) (k : Nat) (w : World) (hr : Ieee.double.read m = .number false mg i) (hk : Ieee.Toward.down.cut false (mg <<< i.toNat) (-i).toNat = k) : Calls Try.prog 26 #[.float .f64 m] w fun e w' => e = .returned (.float .f64 (Ieee.double.nearest false k 0)) ∧ w = w' := by
  have hcf : ∀ w, (callFunc 34 #[.float .f64 m]).run Try.prog w = .ok (.value (.float .f64 (Ieee.double.nearest false k 0))) w := fun w => by
    have h1 : (callFunc 34 #[.float .f64 m]).run Try.prog w = (do let v ← Extern.MathFloor.toIntegral "math.archFloor" .down #[.float .f64 m]; pure (Next.value v) : Sem Next).run Try.prog w := by kernel_rfl
    rw [h1]
    have h2 : FloatKind.f64.decode m = .number false mg i := hr
    have h3 : Extern.MathFloor.toIntegral "math.archFloor" .down #[.float .f64 m] = pure (.float .f64 (Ieee.double.nearest false k 0)) := by
      show Extern.MathFloor.toIntegral.match_1 (motive := fun _ => Sem Value) (FloatKind.f64.decode m) _ _ = _
      rw [h2, ← hk]
      rfl
    rw [h3]
    rfl
  clear hr hk
  go_enter Try.func26, Try.ntmps26
  go_wp2
  go_ret
  exact ⟨rfl, rfl⟩
theorem to_int (m mg : Nat) (i : Int) (k : Nat) (hr : Ieee.double.read m = .number false mg i) (hk : Ieee.Toward.zero.cut false (mg <<< i.toNat) (-i).toNat = k) (h5 : k < 512) : floatToIntVal .f64 m .i64 = some (k : Int) := by
  unfold floatToIntVal
  have h2 : FloatKind.f64.decode m = .number false mg i := hr
  have h3 : (Ieee.Datum.number false mg i).toInt .zero = some (k : Int) := by
    unfold Ieee.Datum.toInt Ieee.Datum.integral
    dsimp only
    rw [hk]
    show some (Ieee.signed false k 0) = some (k : Int)
    unfold Ieee.signed
    rw [Nat.shiftLeft_zero]
    rfl
  rw [h2, h3]
  show (if IntKind.i64.min ≤ (k : Int) ∧ (k : Int) ≤ IntKind.i64.max then some (k : Int) else none) = some (k : Int)
  rw [if_pos]
  have e1 : IntKind.i64.min = -9223372036854775808 := by decide
  have e2 : IntKind.i64.max = 9223372036854775807 := by decide
  rw [e1, e2]
  omega
end Go.Proofs.Ytgjkffennlilhaa
