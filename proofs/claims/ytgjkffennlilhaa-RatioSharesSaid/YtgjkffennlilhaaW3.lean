/- The examples. -/
import Derived.Test.YtgjkffennlilhaaW2
namespace Go.Proofs.Ytgjkffennlilhaa
open Go.RowKit

theorem nan_cut (t : Nat) : fnan (t % 2 * 2 ^ 63 + 0x7ff0000000000000 + 1 + t / 2 % (2 ^ 52 - 1)) = true ∧ t % 2 * 2 ^ 63 + 0x7ff0000000000000 + 1 + t / 2 % (2 ^ 52 - 1) < 18446744073709551616 := by
  obtain ⟨x, hx⟩ : ∃ x, t % 2 * 2 ^ 63 + 0x7ff0000000000000 + 1 + t / 2 % (2 ^ 52 - 1) = x := ⟨_, rfl⟩
  have hb : t / 2 % (2 ^ 52 - 1) < 2 ^ 52 - 1 := Nat.mod_lt _ (by decide)
  have ht := Nat.mod_two_eq_zero_or_one t
  have h1 : x < 18446744073709551616 := by omega
  have h2 : 9218868437227405312 < x % 9223372036854775808 := by omega
  rw [hx]
  refine ⟨?_, h1⟩
  unfold fnan Ieee.Format.read
  simp only [double_least, double_binade, double_inf, double_sign]
  rw [if_neg (by omega), if_neg (by omega), if_neg (by omega)]
  rfl
theorem share_zero (w : World) : Calls Try.prog 8 #[.int .i64 0, .int .i64 0] w fun e w' => (∃ r, e = .returned (.float .f64 r) ∧ fnan r = true ∧ r < 18446744073709551616) ∧ Below w.heap.size w w' := by
  have hc : ∀ w, (convert 3 23 (.int .i64 0)).run Try.prog w = .ok (.float .f64 0) w := fun w => by kernel_rfl
  have hd : FloatKind.f64.format.div 0 0 = none := by decide +kernel
  have hq : ∀ w, (binOp .quo 23 (.float .f64 0) (.float .f64 0)).run Try.prog w = .ok (.float .f64 ((Question.nanBits .f64 0 0).cut (w.tape w.drawn (.nanBits .f64 0 0)))) w.drew := fun w => by
    show (Op.floatArith .quo .f64 0 0).run Try.prog w = _
    simp only [Op.floatArith, hd, pure_bind]
    simp [go_sem, Question.forced]
  go_enter Try.func8, Try.ntmps8
  go_wp2
  go_ret
  exact ⟨⟨_, rfl, nan_cut _⟩, (Below.refl _ _).drew⟩
theorem share_third (w : World) : Calls Try.prog 8 #[.int .i64 1, .int .i64 3] w fun e w' => e = .returned (.float .f64 4599676419421066581) ∧ w = w' := by
  have hc : ∀ w, (convert 3 23 (.int .i64 1)).run Try.prog w = .ok (.float .f64 4607182418800017408) w := fun w => by kernel_rfl
  have hc3 : ∀ w, (convert 3 23 (.int .i64 3)).run Try.prog w = .ok (.float .f64 4613937818241073152) w := fun w => by kernel_rfl
  have hq : ∀ w, (binOp .quo 23 (.float .f64 4607182418800017408) (.float .f64 4613937818241073152)).run Try.prog w = .ok (.float .f64 4599676419421066581) w := fun w => run_float_arith (op := .quo) (t := 23) (k := .f64) (x := 4607182418800017408) (y := 4613937818241073152) (r := 4599676419421066581) (h := by decide +kernel) ..
  go_enter Try.func8, Try.ntmps8
  go_wp2
  go_ret
  exact ⟨rfl, rfl⟩
theorem floor_any (w : World) : Calls Try.prog 26 #[.float .f64 4629888066921343658] w fun e w' => e = .returned (.float .f64 4629841154425225216) ∧ w = w' := by
  have hcf : ∀ w, (callFunc 34 #[.float .f64 4629888066921343658]).run Try.prog w = .ok (.value (.float .f64 4629841154425225216)) w := fun w => by kernel_rfl
  go_enter Try.func26, Try.ntmps26
  go_wp2
  go_ret
  exact ⟨rfl, rfl⟩
theorem percent_third (w : World) : Calls Try.prog 11 #[.int .i64 1, .int .i64 3] w fun e w' => e = .returned (.int .i64 33) ∧ w = w' := by
  have hm : ∀ w, (binOp .mul 23 (.float .f64 4636737291354636288) (.float .f64 4599676419421066581)).run Try.prog w = .ok (.float .f64 4629888066921343658) w := fun w => run_float_arith (op := .mul) (t := 23) (k := .f64) (x := 4636737291354636288) (y := 4599676419421066581) (r := 4629888066921343658) (h := by decide +kernel) ..
  have hc : ∀ w, (convert 23 3 (.float .f64 4629841154425225216)).run Try.prog w = .ok (.int .i64 33) w := fun w => by kernel_rfl
  have hcl : fclamp 4599676419421066581 = 4599676419421066581 := by decide +kernel
  have HC := clamp_any 4599676419421066581 w
  rw [hcl] at HC
  have HC := Lib.hid HC
  clear hcl
  go_enter Try.func11, Try.ntmps11
  go_wp2_with fail
  refine (share_third w).mono ?_
  rintro e wx ⟨rfl, rfl⟩
  go_wp2_with fail
  refine HC.out.mono ?_
  rintro e wx ⟨rfl, rfl⟩
  go_wp2_with fail
  refine (floor_any _).mono ?_
  rintro e wx ⟨rfl, rfl⟩
  go_wp2
  go_ret
  exact ⟨rfl, rfl⟩
theorem awake_any (w : World) : Calls Try.prog 7 #[] w fun e w' => e = .returned (.bool true) ∧ Below w.heap.size w w' := by
  go_enter Try.func7, Try.ntmps7
  go_wp2_with fail
  refine (share_zero w).mono ?_
  rintro e w1 ⟨⟨r, rfl, hn, hr⟩, hb⟩
  have HX := class_any r w1 hr
  rw [cls_nan r hn] at HX
  have HX := Lib.hid HX
  have HB := Lib.hid hb
  clear hn hr hb
  go_wp2_with fail
  refine HX.out.mono ?_
  rintro e wx ⟨rfl, rfl⟩
  go_wp2_with fail
  refine (percent_third _).mono ?_
  rintro e wx ⟨rfl, rfl⟩
  go_wp2
  go_ret
  exact ⟨rfl, HB.out⟩
end Go.Proofs.Ytgjkffennlilhaa
