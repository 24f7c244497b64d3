/- The fixed codes' lengths. -/
import Derived.Test.YtgncenladhempaaDoorW4
import Derived.Test.YtgncenladhempaaDoorFill
import Derived.LoopTactic
import Derived.OwnWalk
namespace Go.Proofs.YtgncenladhempaaDoor
open Go.RowKit

def litF (i : Nat) : Int := if i < 144 then 8 else if i < 256 then 9 else if i < 280 then 7 else 8
theorem info3 : (Tryd.prog.info? 3).map (fun i => (i.zero, i.size, i.bytes)) = some (some (.int .i64 0), 1, 8) := by kernel_rfl
set_option maxHeartbeats 400000 in
set_option maxRecDepth 100000 in
theorem fixedLits_any (w : World) : Calls Tryd.prog 14 #[] w fun e w' => e = .returned (.slice (some ⟨w.heap.size, 0, none⟩) 288 288) ∧ OwnAt w' w.heap.size 3 .i64 w.heap.size 288 288 ((List.range 288).map litF) ∧ Below w.heap.size w w' := by
  obtain ⟨i0, hi, hz0, hz1, hz2⟩ := info_parts info3
  go_enter Tryd.func14, Tryd.ntmps14
  go_wp2_with (at_make; refine wpList_make_full _ rfl _ _ 23 rfl w.heap.size 3 i0 (.int .i64 0) 1 Tryd.underlying23 hi hz0 hz1 .i64 .i64 288 288 288 rfl rfl rfl rfl (by rw [hz2]; decide) (by decide) (Nat.le_refl _) ?_; intro w1 hown hg)
  have H1 : Hid (OwnAt w1 w.heap.size 3 .i64 w.heap.size 288 288 (fillTo litF 288 0)) := by
    rw [toList_made_int] at hown
    rw [fillTo_zero]
    exact Lib.hid hown
  have B1 : Hid (Below w.heap.size w w1) := Lib.hid ((Below.refl _ _).grown hg (Nat.le_refl _) (fun _ h => by cases h))
  clear hown hg hi hz0 hz1 hz2
  go_wp2
  go_loopw [6, 2] (fun c u wr => ∃ k : Nat, k ≤ 288 ∧ c = .int .i64 k ∧ Hid (OwnAt wr w.heap.size 3 .i64 w.heap.size 288 288 (fillTo litF 288 k)) ∧ Hid (Below w.heap.size w wr)) (fun c _ _ => 288 - (intOf c).toNat)
  case atStart => exact ⟨0, Nat.zero_le _, rfl, H1, B1⟩
  case round =>
    obtain ⟨k, hk, rfl, hO, hB⟩ := hrel
    clear H1 B1
    by_cases hlt : k < 288
    · obtain ⟨old, hc⟩ : ∃ old, wr.cell? ⟨w.heap.size, k, none⟩ = some (.int .i64 old) := ⟨_, hO.out.cell hlt⟩
      have hf := hO.out.free k
      have fin : ∀ v : Int, litF k = v → OwnAt (wr.setCell ⟨w.heap.size, k, none⟩ (.int .i64 v)) w.heap.size 3 .i64 w.heap.size 288 288 (fillTo litF 288 (k + 1)) ∧ Below w.heap.size w (wr.setCell ⟨w.heap.size, k, none⟩ (.int .i64 v)) := by
        rintro v rfl
        exact ⟨by rw [← fillTo_set]; exact hO.out.put k _, hB.out.setCell (Nat.le_refl _) _⟩
      have FIN := Lib.hid fin
      clear fin
      by_cases c1 : k < 144
      · have hv := FIN.out 8 (by unfold litF; rw [if_pos c1])
        have HV1 := Lib.hid hv.1
        have HV2 := Lib.hid hv.2
        clear hv FIN
        go_wp2
        go_roundw
        case rel => exact ⟨k + 1, by omega, by go_num, HV1, HV2⟩
        case measure => simp [intOf]; omega
      by_cases c2 : k < 256
      · have hv := FIN.out 9 (by unfold litF; rw [if_neg c1, if_pos c2])
        have HV1 := Lib.hid hv.1
        have HV2 := Lib.hid hv.2
        clear hv FIN
        go_wp2
        go_roundw
        case rel => exact ⟨k + 1, by omega, by go_num, HV1, HV2⟩
        case measure => simp [intOf]; omega
      by_cases c3 : k < 280
      · have hv := FIN.out 7 (by unfold litF; rw [if_neg c1, if_neg c2, if_pos c3])
        have HV1 := Lib.hid hv.1
        have HV2 := Lib.hid hv.2
        clear hv FIN
        go_wp2
        go_roundw
        case rel => exact ⟨k + 1, by omega, by go_num, HV1, HV2⟩
        case measure => simp [intOf]; omega
      · have hv := FIN.out 8 (by unfold litF; rw [if_neg c1, if_neg c2, if_neg c3])
        have HV1 := Lib.hid hv.1
        have HV2 := Lib.hid hv.2
        clear hv FIN
        go_wp2
        go_roundw
        case rel => exact ⟨k + 1, by omega, by go_num, HV1, HV2⟩
        case measure => simp [intOf]; omega
    · obtain rfl : k = 288 := by omega
      go_wp2
      go_ret
      exact ⟨rfl, by rw [← fillTo_all litF 288 288 (Nat.le_refl _)]; exact hO.out, hB.out⟩
end Go.Proofs.YtgncenladhempaaDoor
