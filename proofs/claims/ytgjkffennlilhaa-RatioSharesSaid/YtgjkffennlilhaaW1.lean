/- Classes. -/
import Derived.Test.YtgjkffennlilhaaFloat
import Derived.Test.YtgjkffennlilhaaChecked
import Derived.Test.YtgjkffennlilhaaRows
import Derived.WalkKit
import Derived.WalkSpells
import Derived.Lib.Hide
import Derived.Lib.ItoaNum
import Derived.Laws.FloatArith
namespace Go.Proofs.Ytgjkffennlilhaa
open Go.RowKit

set_option maxHeartbeats 1000000 in
theorem class_page (x : Nat) (w : World) (hx : x < 18446744073709551616) : Calls Try.prog 14 #[.float .f64 x] w fun e w' => e = .returned (.int .i64 (cls x)) ∧ w = w' := by
  by_cases h0 : fnan x = true
  case pos =>
    rw [show cls x = 0 from by unfold cls; rw [if_pos h0]]
    have c0 : (FloatKind.f64.format.order x x != some Ordering.eq) = true := by rw [order_ne]; exact h0
    have hneg : ∀ w, (Op.unary .neg (.float .f64 9218868437227405311)).run Try.prog w = .ok (.float .f64 18442240474082181119) w := fun _ => rfl
    clear h0
    go_enter Try.func14, Try.ntmps14
    go_wp2
    go_ret
    exact ⟨rfl, rfl⟩
  have hn : fnan x = false := by simpa using h0
  have L1 : (FloatKind.f64.format.order x 18442240474082181119 == some Ordering.lt) = decide (fkey x < -maxK) := by rw [order_lt]; unfold flt; rw [hn, max_facts.2.1, max_facts.2.2]; rfl
  have L2 : (FloatKind.f64.format.order x 9218868437227405311 == some Ordering.gt) = decide (maxK < fkey x) := by rw [order_gt]; unfold flt; rw [hn, max_facts.1]; rfl
  have L3 : (FloatKind.f64.format.order x 0 == some Ordering.lt) = decide (fkey x < 0) := by rw [order_lt]; unfold flt; rw [hn, fkey_zero.2, fkey_zero.1]; rfl
  have L4 : (FloatKind.f64.format.order x 0 == some Ordering.gt) = decide (0 < fkey x) := by rw [order_gt]; unfold flt; rw [hn, fkey_zero.2, fkey_zero.1]; rfl
  by_cases h1 : fkey x < -maxK
  case pos =>
    rw [show cls x = 1 from by unfold cls; rw [if_neg h0, if_pos h1]]
    have c0 : (FloatKind.f64.format.order x x != some Ordering.eq) = false := by rw [order_ne]; exact hn
    have c1 : (FloatKind.f64.format.order x 18442240474082181119 == some Ordering.lt) = true := by rw [L1]; simpa using h1
    have hneg : ∀ w, (Op.unary .neg (.float .f64 9218868437227405311)).run Try.prog w = .ok (.float .f64 18442240474082181119) w := fun _ => rfl
    clear h0 h1
    clear L1 L2 L3 L4
    go_enter Try.func14, Try.ntmps14
    go_wp2
    go_ret
    exact ⟨rfl, rfl⟩
  by_cases h2 : maxK < fkey x
  case pos =>
    rw [show cls x = 6 from by unfold cls; rw [if_neg h0, if_neg h1, if_pos h2]]
    have c0 : (FloatKind.f64.format.order x x != some Ordering.eq) = false := by rw [order_ne]; exact hn
    have c1 : (FloatKind.f64.format.order x 18442240474082181119 == some Ordering.lt) = false := by rw [L1]; simpa using h1
    have c2 : (FloatKind.f64.format.order x 9218868437227405311 == some Ordering.gt) = true := by rw [L2]; simpa using h2
    have hneg : ∀ w, (Op.unary .neg (.float .f64 9218868437227405311)).run Try.prog w = .ok (.float .f64 18442240474082181119) w := fun _ => rfl
    clear h0 h1 h2
    clear L1 L2 L3 L4
    go_enter Try.func14, Try.ntmps14
    go_wp2
    go_ret
    exact ⟨rfl, rfl⟩
  by_cases h3 : fkey x < 0
  case pos =>
    rw [show cls x = 2 from by unfold cls; rw [if_neg h0, if_neg h1, if_neg h2, if_pos h3]]
    have c0 : (FloatKind.f64.format.order x x != some Ordering.eq) = false := by rw [order_ne]; exact hn
    have c1 : (FloatKind.f64.format.order x 18442240474082181119 == some Ordering.lt) = false := by rw [L1]; simpa using h1
    have c2 : (FloatKind.f64.format.order x 9218868437227405311 == some Ordering.gt) = false := by rw [L2]; simpa using h2
    have c3 : (FloatKind.f64.format.order x 0 == some Ordering.lt) = true := by rw [L3]; simpa using h3
    have hneg : ∀ w, (Op.unary .neg (.float .f64 9218868437227405311)).run Try.prog w = .ok (.float .f64 18442240474082181119) w := fun _ => rfl
    clear h0 h1 h2 h3
    clear L1 L2 L3 L4
    go_enter Try.func14, Try.ntmps14
    go_wp2
    go_ret
    exact ⟨rfl, rfl⟩
  by_cases h4 : 0 < fkey x
  case pos =>
    rw [show cls x = 5 from by unfold cls; rw [if_neg h0, if_neg h1, if_neg h2, if_neg h3, if_pos h4]]
    have c0 : (FloatKind.f64.format.order x x != some Ordering.eq) = false := by rw [order_ne]; exact hn
    have c1 : (FloatKind.f64.format.order x 18442240474082181119 == some Ordering.lt) = false := by rw [L1]; simpa using h1
    have c2 : (FloatKind.f64.format.order x 9218868437227405311 == some Ordering.gt) = false := by rw [L2]; simpa using h2
    have c3 : (FloatKind.f64.format.order x 0 == some Ordering.lt) = false := by rw [L3]; simpa using h3
    have c4 : (FloatKind.f64.format.order x 0 == some Ordering.gt) = true := by rw [L4]; simpa using h4
    have hneg : ∀ w, (Op.unary .neg (.float .f64 9218868437227405311)).run Try.prog w = .ok (.float .f64 18442240474082181119) w := fun _ => rfl
    clear h0 h1 h2 h3 h4
    clear L1 L2 L3 L4
    go_enter Try.func14, Try.ntmps14
    go_wp2
    go_ret
    exact ⟨rfl, rfl⟩
  by_cases h5 : 9223372036854775808 ≤ x
  case pos =>
    rw [show cls x = 3 from by unfold cls; rw [if_neg h0, if_neg h1, if_neg h2, if_neg h3, if_neg h4, if_pos h5]]
    have c0 : (FloatKind.f64.format.order x x != some Ordering.eq) = false := by rw [order_ne]; exact hn
    have c1 : (FloatKind.f64.format.order x 18442240474082181119 == some Ordering.lt) = false := by rw [L1]; simpa using h1
    have c2 : (FloatKind.f64.format.order x 9218868437227405311 == some Ordering.gt) = false := by rw [L2]; simpa using h2
    have c3 : (FloatKind.f64.format.order x 0 == some Ordering.lt) = false := by rw [L3]; simpa using h3
    have c4 : (FloatKind.f64.format.order x 0 == some Ordering.gt) = false := by rw [L4]; simpa using h4
    obtain rfl : x = 9223372036854775808 := by
      have hz := zero_of_key x hx hn (by omega)
      omega
    have hq : ∀ w, (binOp .quo 23 (.float .f64 4607182418800017408) (.float .f64 9223372036854775808)).run Try.prog w = .ok (.float .f64 18442240474082181120) w := fun w => run_float_arith (op := .quo) (t := 23) (k := .f64) (x := 4607182418800017408) (y := 9223372036854775808) (r := 18442240474082181120) (h := by decide +kernel) ..
    have c5 : (FloatKind.f64.format.order 18442240474082181120 0 == some Ordering.lt) = true := by decide +kernel
    have hneg : ∀ w, (Op.unary .neg (.float .f64 9218868437227405311)).run Try.prog w = .ok (.float .f64 18442240474082181119) w := fun _ => rfl
    clear h0 h1 h2 h3 h4 h5
    clear L1 L2 L3 L4
    go_enter Try.func14, Try.ntmps14
    go_wp2
    go_ret
    exact ⟨rfl, rfl⟩
  rw [show cls x = 4 from by unfold cls; rw [if_neg h0, if_neg h1, if_neg h2, if_neg h3, if_neg h4, if_neg h5]]
  have c0 : (FloatKind.f64.format.order x x != some Ordering.eq) = false := by rw [order_ne]; exact hn
  have c1 : (FloatKind.f64.format.order x 18442240474082181119 == some Ordering.lt) = false := by rw [L1]; simpa using h1
  have c2 : (FloatKind.f64.format.order x 9218868437227405311 == some Ordering.gt) = false := by rw [L2]; simpa using h2
  have c3 : (FloatKind.f64.format.order x 0 == some Ordering.lt) = false := by rw [L3]; simpa using h3
  have c4 : (FloatKind.f64.format.order x 0 == some Ordering.gt) = false := by rw [L4]; simpa using h4
  obtain rfl : x = 0 := by
    have hz := zero_of_key x hx hn (by omega)
    omega
  have hq : ∀ w, (binOp .quo 23 (.float .f64 4607182418800017408) (.float .f64 0)).run Try.prog w = .ok (.float .f64 9218868437227405312) w := fun w => run_float_arith (op := .quo) (t := 23) (k := .f64) (x := 4607182418800017408) (y := 0) (r := 9218868437227405312) (h := by decide +kernel) ..
  have c5 : (FloatKind.f64.format.order 9218868437227405312 0 == some Ordering.lt) = false := by decide +kernel
  have hneg : ∀ w, (Op.unary .neg (.float .f64 9218868437227405311)).run Try.prog w = .ok (.float .f64 18442240474082181119) w := fun _ => rfl
  clear h0 h1 h2 h3 h4 h5
  clear L1 L2 L3 L4
  go_enter Try.func14, Try.ntmps14
  go_wp2
  go_ret
  exact ⟨rfl, rfl⟩
theorem isnan_any (x : Nat) (w : World) : Calls Try.prog 27 #[.float .f64 x] w fun e w' => e = .returned (.bool (fnan x)) ∧ w = w' := by
  have c := order_ne x
  go_enter Try.func27, Try.ntmps27
  go_wp2
  go_ret
  exact ⟨rfl, rfl⟩
theorem isinf_pos (x : Nat) (w : World) (hn : fnan x = false) : Calls Try.prog 28 #[.float .f64 x, .int .i64 1] w fun e w' => e = .returned (.bool (decide (maxK < fkey x))) ∧ w = w' := by
  have L2 : (FloatKind.f64.format.order x 9218868437227405311 == some Ordering.gt) = decide (maxK < fkey x) := by rw [order_gt]; unfold flt; rw [hn, max_facts.1]; rfl
  go_enter Try.func28, Try.ntmps28
  go_wp2
  go_ret
  exact ⟨rfl, rfl⟩
theorem isinf_neg (x : Nat) (w : World) (hx : x < 18446744073709551616) (hn : fnan x = false) : Calls Try.prog 28 #[.float .f64 x, .int .i64 (-1)] w fun e w' => e = .returned (.bool (decide (fkey x < -maxK))) ∧ w = w' := by
  have hneg : ∀ w, (Op.unary .neg (.float .f64 x)).run Try.prog w = .ok (.float .f64 (fneg x)) w := fun _ => rfl
  have L2 : (FloatKind.f64.format.order (fneg x) 9218868437227405311 == some Ordering.gt) = decide (fkey x < -maxK) := by
    rw [order_gt]
    unfold flt
    rw [fnan_fneg x hx, hn, max_facts.1, fkey_fneg x hx]
    show decide (maxK < -fkey x) = decide (fkey x < -maxK)
    congr 1
    apply propext
    omega
  clear hx hn
  go_enter Try.func28, Try.ntmps28
  go_wp2
  go_ret
  exact ⟨rfl, rfl⟩
theorem signbit_any (x : Nat) (w : World) (hx : x < 18446744073709551616) : Calls Try.prog 29 #[.float .f64 x] w fun e w' => e = .returned (.bool (decide (9223372036854775808 ≤ x))) ∧ w = w' := by
  obtain ⟨i, hi⟩ : ∃ i, IntKind.i64.wrap (x : Int) = i := ⟨_, rfl⟩
  have hi2 : wrap64 (x : Int) = i := by rw [← hi, IntKind.wrap_i64]; unfold wrap64; rfl
  have c : decide (i < 0) = decide (9223372036854775808 ≤ x) := by
    rw [← hi, IntKind.wrap_i64]
    congr 1
    apply propext
    omega
  have hcf : ∀ w, (callFunc 37 #[.float .f64 x]).run Try.prog w = .ok (.value (.int .u64 (x : Nat))) w := fun w => by kernel_rfl
  clear hx
  go_enter Try.func29, Try.ntmps29
  go_wp2
  go_ret
  exact ⟨rfl, rfl⟩
set_option maxHeartbeats 1000000 in
theorem class_any (x : Nat) (w : World) (hx : x < 18446744073709551616) : Calls Try.prog 13 #[.float .f64 x] w fun e w' => e = .returned (.int .i64 (cls x)) ∧ w = w' := by
  by_cases h0 : fnan x = true
  case pos =>
    rw [show cls x = 0 from by unfold cls; rw [if_pos h0]]
    have IN := Lib.hid (isnan_any x w)
    rw [show fnan x = true from h0] at IN
    clear h0
    go_enter Try.func13, Try.ntmps13
    go_wp2_with fail
    refine IN.out.mono ?_
    rintro e wx ⟨rfl, rfl⟩
    go_wp2
    go_ret
    exact ⟨rfl, rfl⟩
  have hn : fnan x = false := by simpa using h0
  have L1 : (FloatKind.f64.format.order x 18442240474082181119 == some Ordering.lt) = decide (fkey x < -maxK) := by rw [order_lt]; unfold flt; rw [hn, max_facts.2.1, max_facts.2.2]; rfl
  have L2 : (FloatKind.f64.format.order x 9218868437227405311 == some Ordering.gt) = decide (maxK < fkey x) := by rw [order_gt]; unfold flt; rw [hn, max_facts.1]; rfl
  have L3 : (FloatKind.f64.format.order x 0 == some Ordering.lt) = decide (fkey x < 0) := by rw [order_lt]; unfold flt; rw [hn, fkey_zero.2, fkey_zero.1]; rfl
  have L4 : (FloatKind.f64.format.order x 0 == some Ordering.gt) = decide (0 < fkey x) := by rw [order_gt]; unfold flt; rw [hn, fkey_zero.2, fkey_zero.1]; rfl
  by_cases h1 : fkey x < -maxK
  case pos =>
    rw [show cls x = 1 from by unfold cls; rw [if_neg h0, if_pos h1]]
    have c1 : decide (fkey x < -maxK) = true := by simpa using h1
    have IN := Lib.hid (isnan_any x w)
    rw [hn] at IN
    have I1 := Lib.hid (isinf_neg x w hx hn)
    have I2 := Lib.hid (isinf_pos x w hn)
    have SB := Lib.hid (signbit_any x w hx)
    rw [c1] at I1
    clear h0 h1
    clear L1 L2 L3 L4
    go_enter Try.func13, Try.ntmps13
    go_wp2_with fail
    refine IN.out.mono ?_
    rintro e wx ⟨rfl, rfl⟩
    go_wp2_with fail
    refine I1.out.mono ?_
    rintro e wx ⟨rfl, rfl⟩
    go_wp2
    go_ret
    exact ⟨rfl, rfl⟩
  by_cases h2 : maxK < fkey x
  case pos =>
    rw [show cls x = 6 from by unfold cls; rw [if_neg h0, if_neg h1, if_pos h2]]
    have c1 : decide (fkey x < -maxK) = false := by simpa using h1
    have c2 : decide (maxK < fkey x) = true := by simpa using h2
    have IN := Lib.hid (isnan_any x w)
    rw [hn] at IN
    have I1 := Lib.hid (isinf_neg x w hx hn)
    have I2 := Lib.hid (isinf_pos x w hn)
    have SB := Lib.hid (signbit_any x w hx)
    rw [c1] at I1
    rw [c2] at I2
    clear h0 h1 h2
    clear L1 L2 L3 L4
    go_enter Try.func13, Try.ntmps13
    go_wp2_with fail
    refine IN.out.mono ?_
    rintro e wx ⟨rfl, rfl⟩
    go_wp2_with fail
    refine I1.out.mono ?_
    rintro e wx ⟨rfl, rfl⟩
    go_wp2_with fail
    refine I2.out.mono ?_
    rintro e wx ⟨rfl, rfl⟩
    go_wp2
    go_ret
    exact ⟨rfl, rfl⟩
  by_cases h3 : fkey x < 0
  case pos =>
    rw [show cls x = 2 from by unfold cls; rw [if_neg h0, if_neg h1, if_neg h2, if_pos h3]]
    have c1 : decide (fkey x < -maxK) = false := by simpa using h1
    have c2 : decide (maxK < fkey x) = false := by simpa using h2
    have c3 : (FloatKind.f64.format.order x 0 == some Ordering.lt) = true := by rw [L3]; simpa using h3
    have IN := Lib.hid (isnan_any x w)
    rw [hn] at IN
    have I1 := Lib.hid (isinf_neg x w hx hn)
    have I2 := Lib.hid (isinf_pos x w hn)
    have SB := Lib.hid (signbit_any x w hx)
    rw [c1] at I1
    rw [c2] at I2
    clear h0 h1 h2 h3
    clear L1 L2 L3 L4
    go_enter Try.func13, Try.ntmps13
    go_wp2_with fail
    refine IN.out.mono ?_
    rintro e wx ⟨rfl, rfl⟩
    go_wp2_with fail
    refine I1.out.mono ?_
    rintro e wx ⟨rfl, rfl⟩
    go_wp2_with fail
    refine I2.out.mono ?_
    rintro e wx ⟨rfl, rfl⟩
    go_wp2
    go_ret
    exact ⟨rfl, rfl⟩
  by_cases h4 : 0 < fkey x
  case pos =>
    rw [show cls x = 5 from by unfold cls; rw [if_neg h0, if_neg h1, if_neg h2, if_neg h3, if_pos h4]]
    have c1 : decide (fkey x < -maxK) = false := by simpa using h1
    have c2 : decide (maxK < fkey x) = false := by simpa using h2
    have c3 : (FloatKind.f64.format.order x 0 == some Ordering.lt) = false := by rw [L3]; simpa using h3
    have c4 : (FloatKind.f64.format.order x 0 == some Ordering.gt) = true := by rw [L4]; simpa using h4
    have IN := Lib.hid (isnan_any x w)
    rw [hn] at IN
    have I1 := Lib.hid (isinf_neg x w hx hn)
    have I2 := Lib.hid (isinf_pos x w hn)
    have SB := Lib.hid (signbit_any x w hx)
    rw [c1] at I1
    rw [c2] at I2
    clear h0 h1 h2 h3 h4
    clear L1 L2 L3 L4
    go_enter Try.func13, Try.ntmps13
    go_wp2_with fail
    refine IN.out.mono ?_
    rintro e wx ⟨rfl, rfl⟩
    go_wp2_with fail
    refine I1.out.mono ?_
    rintro e wx ⟨rfl, rfl⟩
    go_wp2_with fail
    refine I2.out.mono ?_
    rintro e wx ⟨rfl, rfl⟩
    go_wp2
    go_ret
    exact ⟨rfl, rfl⟩
  by_cases h5 : 9223372036854775808 ≤ x
  case pos =>
    rw [show cls x = 3 from by unfold cls; rw [if_neg h0, if_neg h1, if_neg h2, if_neg h3, if_neg h4, if_pos h5]]
    have c1 : decide (fkey x < -maxK) = false := by simpa using h1
    have c2 : decide (maxK < fkey x) = false := by simpa using h2
    have c3 : (FloatKind.f64.format.order x 0 == some Ordering.lt) = false := by rw [L3]; simpa using h3
    have c4 : (FloatKind.f64.format.order x 0 == some Ordering.gt) = false := by rw [L4]; simpa using h4
    have c5 : decide (9223372036854775808 ≤ x) = true := by simpa using h5
    have IN := Lib.hid (isnan_any x w)
    rw [hn] at IN
    have I1 := Lib.hid (isinf_neg x w hx hn)
    have I2 := Lib.hid (isinf_pos x w hn)
    have SB := Lib.hid (signbit_any x w hx)
    rw [c1] at I1
    rw [c2] at I2
    rw [c5] at SB
    clear h0 h1 h2 h3 h4 h5
    clear L1 L2 L3 L4
    go_enter Try.func13, Try.ntmps13
    go_wp2_with fail
    refine IN.out.mono ?_
    rintro e wx ⟨rfl, rfl⟩
    go_wp2_with fail
    refine I1.out.mono ?_
    rintro e wx ⟨rfl, rfl⟩
    go_wp2_with fail
    refine I2.out.mono ?_
    rintro e wx ⟨rfl, rfl⟩
    go_wp2_with fail
    refine SB.out.mono ?_
    rintro e wx ⟨rfl, rfl⟩
    go_wp2
    go_ret
    exact ⟨rfl, rfl⟩
  rw [show cls x = 4 from by unfold cls; rw [if_neg h0, if_neg h1, if_neg h2, if_neg h3, if_neg h4, if_neg h5]]
  have c1 : decide (fkey x < -maxK) = false := by simpa using h1
  have c2 : decide (maxK < fkey x) = false := by simpa using h2
  have c3 : (FloatKind.f64.format.order x 0 == some Ordering.lt) = false := by rw [L3]; simpa using h3
  have c4 : (FloatKind.f64.format.order x 0 == some Ordering.gt) = false := by rw [L4]; simpa using h4
  have c5 : decide (9223372036854775808 ≤ x) = false := by simpa using h5
  have IN := Lib.hid (isnan_any x w)
  rw [hn] at IN
  have I1 := Lib.hid (isinf_neg x w hx hn)
  have I2 := Lib.hid (isinf_pos x w hn)
  have SB := Lib.hid (signbit_any x w hx)
  rw [c1] at I1
  rw [c2] at I2
  rw [c5] at SB
  clear h0 h1 h2 h3 h4 h5
  clear L1 L2 L3 L4
  go_enter Try.func13, Try.ntmps13
  go_wp2_with fail
  refine IN.out.mono ?_
  rintro e wx ⟨rfl, rfl⟩
  go_wp2_with fail
  refine I1.out.mono ?_
  rintro e wx ⟨rfl, rfl⟩
  go_wp2_with fail
  refine I2.out.mono ?_
  rintro e wx ⟨rfl, rfl⟩
  go_wp2_with fail
  refine SB.out.mono ?_
  rintro e wx ⟨rfl, rfl⟩
  go_wp2
  go_ret
  exact ⟨rfl, rfl⟩
end Go.Proofs.Ytgjkffennlilhaa
