/- The example. -/
import Derived.Test.YtgjkkapopjpohaaF5
namespace Go.Proofs.Ytgjkkapopjpohaa
open Go.RowKit

theorem firm_bs {S : Nat → Prop} {A : Option Addr} {n : Nat} {bs : List UInt8} : Firm fun w => Bs w S A n bs := fun _ _ h he => Bs.below h he
theorem enc_zero : enc 0 0 0 false = [80, 75, 5, 6, 0, 0, 0, 0, 0, 0, 0, 0, 0, 0, 0, 0, 0, 0, 0, 0, 0, 0] := by decide +kernel
set_option maxRecDepth 100000 in
set_option maxHeartbeats 2000000 in
theorem awake_any (w : World) : Calls Try.prog 6 #[] w fun e w' => e = .returned (.bool true) ∧ Below w.heap.size w w' := by
  obtain ⟨i0, hi, hz0, hz1, hz2⟩ := info_parts info5
  go_enter Try.func6, Try.ntmps6
  go_wp2_with fail
  have h := encode_slim 0 0 0 w (by omega) (by omega) (by omega)
  unfold RetE at h
  rw [enc_zero] at h
  refine h.mono ?_
  rintro e w0 ⟨A0, c0, rfl, hO, hb⟩
  have HB := Lib.hid hb
  have HO := Lib.hid hO
  have k1 := fun mm => str_of (w := w0.over mm) c0 (hO.below (World.over_below w0 mm))
  clear hO hb h
  go_wp2
  refine wp_region_free (by kernel_rfl) (by kernel_rfl) (by kernel_rfl) ?_
  iterate 5 (first | (refine free_skip rfl rfl ?_; intro K hK; go_big_quiet_op; go_big_quiet_on) | (refine free_hard rfl rfl ?_; intro K hK; go_big_quiet_op; go_big_quiet_on))
  refine free_soft (ι := Option Addr × Nat) (fun i => .slice i.1 18 i.2) (fun i w' => Bs w' (fun b => w0.heap.size ≤ b) i.1 18 (List.replicate 18 (0 : UInt8))) rfl rfl rfl (fun _ => firm_bs) (fun w' hw' => ?_) (fun i => ?_)
  · have hb := hw'.1.below
    clear hw'
    obtain ⟨w2, hrun, r1, r2⟩ := run_make_full (P := Try.prog) w' w0.heap.size 25 5 i0 (.int .u8 0) 1 Try.underlying25 hi hz0 hz1 .i64 .i64 18 (by rw [hz2]; omega) (by unfold maxLen; omega) hb.size
    rw [toList_made_int, zeros_bv] at r1
    go_simp
    simp only [show ((18 : Nat) : Int) = 18 from rfl] at hrun
    simp only [hrun, Result.andThen_ok, Oper.softUpon]
    exact ⟨(Below.refl _ _).grown r2 (Nat.le_refl _) (fun _ h => by cases h), (some ⟨w'.heap.size, 0, none⟩, 18), rfl, Bs.of_own r1⟩
  obtain ⟨A1, c1⟩ := i
  dsimp only
  intro K hK
  go_big_quiet_op
  go_big_quiet_on
  refine free_fact (.string ⟨(List.replicate 18 (0 : UInt8)).toArray⟩) rfl rfl rfl (fun w' hw' => ?_) ?_
  · have hf := str_of c1 (hw'.2 5 (by kernel_rfl)).1
    clear hw'
    go_simp
  intro K hK
  go_big_quiet_op
  go_big_quiet_on
  iterate 14 (first | (refine free_skip rfl rfl ?_; intro K hK; go_big_quiet_op; go_big_quiet_on) | (refine free_hard rfl rfl ?_; intro K hK; go_big_quiet_op; go_big_quiet_on))
  refine free_nil ?_
  intro w4 hb4 hk4
  have B4 := Lib.hid (HB.out.trans (hb4.mono HB.out.size))
  clear hk4 hb4 k1
  go_wp2
  go_ret
  refine ⟨?_, B4.out⟩
  show Ending.returned (Value.bool _) = Ending.returned (Value.bool true)
  refine congrArg (fun b => Ending.returned (Value.bool b)) ?_
  decide +kernel
end Go.Proofs.Ytgjkkapopjpohaa
