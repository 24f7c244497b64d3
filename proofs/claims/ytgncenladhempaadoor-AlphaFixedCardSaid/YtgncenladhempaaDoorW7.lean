/- The fixed codes' lengths, as the page has them; lists compared. -/
import Derived.Test.YtgncenladhempaaDoorW6
namespace Go.Proofs.YtgncenladhempaaDoor
open Go.RowKit

theorem one_int {k : IntKind} {v : Int} : ∀ u ∈ [Value.int k v], u.oneCell' = true := by
  intro u hu
  simp at hu
  subst hu
  rfl
set_option maxHeartbeats 1000000 in
set_option maxRecDepth 100000 in
theorem rfixedLits_any (w : World) : Calls Tryd.prog 15 #[] w fun e w' => ∃ A c, e = .returned (.slice A 288 c) ∧ w'.ownsRow w.heap.size 3 1 (.slice A 288 c) 288 (((List.range 288).map litF).map (Value.int .i64)) ∧ Below w.heap.size w w' := by
  obtain ⟨i0, hi, hz0, hz1, hz2⟩ := info_parts info3
  go_enter Tryd.func15, Tryd.ntmps15
  go_wp2
  go_loopw [1, 2] (fun v i wr => ∃ (k : Nat) (A : Option Addr) (c : Nat), k ≤ 288 ∧ i = .int .i64 k ∧ v = .slice A k c ∧ Hid (wr.ownsRow w.heap.size 3 1 (.slice A k c) k (((List.range k).map litF).map (Value.int .i64))) ∧ Hid (Below w.heap.size w wr)) (fun _ i _ => 288 - (intOf i).toNat)
  case atStart => exact ⟨0, none, 0, Nat.zero_le _, rfl, rfl, World.ownsRow_nil _ _ _ _, Below.refl _ _⟩
  case round =>
    obtain ⟨k, A, c, hk, rfl, rfl, hO, hB⟩ := hrel
    by_cases hlt : k < 288
    · skip
      by_cases c1 : k < 144
      · have HV : Hid (litF k = 8) := Lib.hid (by unfold litF; rw [if_pos c1])
        go_wp2_with (at_builtin; refine wpList_append_list _ rfl (.tmp 20) (.tmp 22) 23 rfl w.heap.size 3 i0 (.int .i64 0) 1 8 Tryd.underlying23 hi hz0 hz1 hz2 rfl (by decide) _ k _ rfl (hO.out.alloc _) _ (some ⟨wr.heap.size, 0, none⟩) 1 1 [.int .i64 8] rfl (Lst.new wr 3 #[.int .i64 8] 1 rfl rfl) one_int (by unfold maxLen; omega) (by omega) (by have := hB.out.size; simp; omega) ?_)
        intro A3 c3 x3 hown3 hgrow3 hat3
        have HO3 : Hid (x3.ownsRow w.heap.size 3 1 (.slice A3 (k + 1) c3) (k + 1) (((List.range (k + 1)).map litF).map (Value.int .i64))) := by
          rw [range_snoc, List.map_append, show litF k = 8 from HV.out]
          exact Lib.hid (show _ by simpa using hown3)
        have HW3 := Lib.hid ((hB.out.alloc hB.out.size _).grown hgrow3 (by have := hB.out.size; simp; omega) (fun g e => (hO.out.lt g e).1))
        clear hown3 hgrow3 hat3 HV
        go_wp2
        go_roundw
        case rel => exact ⟨k + 1, A3, c3, by omega, by go_num, rfl, HO3, HW3⟩
        case measure => simp [intOf]; omega
      by_cases c2 : k < 256
      · have HV : Hid (litF k = 9) := Lib.hid (by unfold litF; rw [if_neg c1, if_pos c2])
        go_wp2_with (at_builtin; refine wpList_append_list _ rfl (.tmp 20) (.tmp 22) 23 rfl w.heap.size 3 i0 (.int .i64 0) 1 8 Tryd.underlying23 hi hz0 hz1 hz2 rfl (by decide) _ k _ rfl (hO.out.alloc _) _ (some ⟨wr.heap.size, 0, none⟩) 1 1 [.int .i64 9] rfl (Lst.new wr 3 #[.int .i64 9] 1 rfl rfl) one_int (by unfold maxLen; omega) (by omega) (by have := hB.out.size; simp; omega) ?_)
        intro A3 c3 x3 hown3 hgrow3 hat3
        have HO3 : Hid (x3.ownsRow w.heap.size 3 1 (.slice A3 (k + 1) c3) (k + 1) (((List.range (k + 1)).map litF).map (Value.int .i64))) := by
          rw [range_snoc, List.map_append, show litF k = 9 from HV.out]
          exact Lib.hid (show _ by simpa using hown3)
        have HW3 := Lib.hid ((hB.out.alloc hB.out.size _).grown hgrow3 (by have := hB.out.size; simp; omega) (fun g e => (hO.out.lt g e).1))
        clear hown3 hgrow3 hat3 HV
        go_wp2
        go_roundw
        case rel => exact ⟨k + 1, A3, c3, by omega, by go_num, rfl, HO3, HW3⟩
        case measure => simp [intOf]; omega
      by_cases c3 : k < 280
      · have HV : Hid (litF k = 7) := Lib.hid (by unfold litF; rw [if_neg c1, if_neg c2, if_pos c3])
        go_wp2_with (at_builtin; refine wpList_append_list _ rfl (.tmp 20) (.tmp 22) 23 rfl w.heap.size 3 i0 (.int .i64 0) 1 8 Tryd.underlying23 hi hz0 hz1 hz2 rfl (by decide) _ k _ rfl (hO.out.alloc _) _ (some ⟨wr.heap.size, 0, none⟩) 1 1 [.int .i64 7] rfl (Lst.new wr 3 #[.int .i64 7] 1 rfl rfl) one_int (by unfold maxLen; omega) (by omega) (by have := hB.out.size; simp; omega) ?_)
        intro A3 c3 x3 hown3 hgrow3 hat3
        have HO3 : Hid (x3.ownsRow w.heap.size 3 1 (.slice A3 (k + 1) c3) (k + 1) (((List.range (k + 1)).map litF).map (Value.int .i64))) := by
          rw [range_snoc, List.map_append, show litF k = 7 from HV.out]
          exact Lib.hid (show _ by simpa using hown3)
        have HW3 := Lib.hid ((hB.out.alloc hB.out.size _).grown hgrow3 (by have := hB.out.size; simp; omega) (fun g e => (hO.out.lt g e).1))
        clear hown3 hgrow3 hat3 HV
        go_wp2
        go_roundw
        case rel => exact ⟨k + 1, A3, c3, by omega, by go_num, rfl, HO3, HW3⟩
        case measure => simp [intOf]; omega
      · have HV : Hid (litF k = 8) := Lib.hid (by unfold litF; rw [if_neg c1, if_neg c2, if_neg c3])
        go_wp2_with (at_builtin; refine wpList_append_list _ rfl (.tmp 20) (.tmp 22) 23 rfl w.heap.size 3 i0 (.int .i64 0) 1 8 Tryd.underlying23 hi hz0 hz1 hz2 rfl (by decide) _ k _ rfl (hO.out.alloc _) _ (some ⟨wr.heap.size, 0, none⟩) 1 1 [.int .i64 8] rfl (Lst.new wr 3 #[.int .i64 8] 1 rfl rfl) one_int (by unfold maxLen; omega) (by omega) (by have := hB.out.size; simp; omega) ?_)
        intro A3 c3 x3 hown3 hgrow3 hat3
        have HO3 : Hid (x3.ownsRow w.heap.size 3 1 (.slice A3 (k + 1) c3) (k + 1) (((List.range (k + 1)).map litF).map (Value.int .i64))) := by
          rw [range_snoc, List.map_append, show litF k = 8 from HV.out]
          exact Lib.hid (show _ by simpa using hown3)
        have HW3 := Lib.hid ((hB.out.alloc hB.out.size _).grown hgrow3 (by have := hB.out.size; simp; omega) (fun g e => (hO.out.lt g e).1))
        clear hown3 hgrow3 hat3 HV
        go_wp2
        go_roundw
        case rel => exact ⟨k + 1, A3, c3, by omega, by go_num, rfl, HO3, HW3⟩
        case measure => simp [intOf]; omega
    · obtain rfl : k = 288 := by omega
      go_wp2
      go_ret
      exact ⟨A, c, rfl, hO.out, hB.out⟩
def distF (_ : Nat) : Int := 5
set_option maxHeartbeats 1000000 in
set_option maxRecDepth 100000 in
theorem rfixedDists_any (w : World) : Calls Tryd.prog 17 #[] w fun e w' => ∃ A c, e = .returned (.slice A 32 c) ∧ w'.ownsRow w.heap.size 3 1 (.slice A 32 c) 32 (((List.range 32).map distF).map (Value.int .i64)) ∧ Below w.heap.size w w' := by
  obtain ⟨i0, hi, hz0, hz1, hz2⟩ := info_parts info3
  go_enter Tryd.func17, Tryd.ntmps17
  go_wp2
  go_loopw [1, 2] (fun v i wr => ∃ (k : Nat) (A : Option Addr) (c : Nat), k ≤ 32 ∧ i = .int .i64 k ∧ v = .slice A k c ∧ Hid (wr.ownsRow w.heap.size 3 1 (.slice A k c) k (((List.range k).map distF).map (Value.int .i64))) ∧ Hid (Below w.heap.size w wr)) (fun _ i _ => 32 - (intOf i).toNat)
  case atStart => exact ⟨0, none, 0, Nat.zero_le _, rfl, rfl, World.ownsRow_nil _ _ _ _, Below.refl _ _⟩
  case round =>
    obtain ⟨k, A, c, hk, rfl, rfl, hO, hB⟩ := hrel
    by_cases hlt : k < 32
    · skip
      · have HV : Hid (distF k = 5) := Lib.hid (by rfl)
        go_wp2_with (at_builtin; refine wpList_append_list _ rfl (.tmp 7) (.tmp 8) 23 rfl w.heap.size 3 i0 (.int .i64 0) 1 8 Tryd.underlying23 hi hz0 hz1 hz2 rfl (by decide) _ k _ rfl (hO.out.alloc _) _ (some ⟨wr.heap.size, 0, none⟩) 1 1 [.int .i64 5] rfl (Lst.new wr 3 #[.int .i64 5] 1 rfl rfl) one_int (by unfold maxLen; omega) (by omega) (by have := hB.out.size; simp; omega) ?_)
        intro A3 c3 x3 hown3 hgrow3 hat3
        have HO3 : Hid (x3.ownsRow w.heap.size 3 1 (.slice A3 (k + 1) c3) (k + 1) (((List.range (k + 1)).map distF).map (Value.int .i64))) := by
          rw [range_snoc, List.map_append, show distF k = 5 from HV.out]
          exact Lib.hid (show _ by simpa using hown3)
        have HW3 := Lib.hid ((hB.out.alloc hB.out.size _).grown hgrow3 (by have := hB.out.size; simp; omega) (fun g e => (hO.out.lt g e).1))
        clear hown3 hgrow3 hat3 HV
        go_wp2
        go_roundw
        case rel => exact ⟨k + 1, A3, c3, by omega, by go_num, rfl, HO3, HW3⟩
        case measure => simp [intOf]; omega
    · obtain rfl : k = 32 := by omega
      go_wp2
      go_ret
      exact ⟨A, c, rfl, hO.out, hB.out⟩
set_option maxHeartbeats 400000 in
set_option maxRecDepth 100000 in
theorem fixedDists_any (w : World) : Calls Tryd.prog 16 #[] w fun e w' => e = .returned (.slice (some ⟨w.heap.size, 0, none⟩) 32 32) ∧ OwnAt w' w.heap.size 3 .i64 w.heap.size 32 32 ((List.range 32).map distF) ∧ Below w.heap.size w w' := by
  obtain ⟨i0, hi, hz0, hz1, hz2⟩ := info_parts info3
  go_enter Tryd.func16, Tryd.ntmps16
  go_wp2_with (at_make; refine wpList_make_full _ rfl _ _ 23 rfl w.heap.size 3 i0 (.int .i64 0) 1 Tryd.underlying23 hi hz0 hz1 .i64 .i64 32 32 32 rfl rfl rfl rfl (by rw [hz2]; decide) (by decide) (Nat.le_refl _) ?_; intro w1 hown hg)
  have H1 : Hid (OwnAt w1 w.heap.size 3 .i64 w.heap.size 32 32 (fillTo distF 32 0)) := by
    rw [toList_made_int] at hown
    rw [fillTo_zero]
    exact Lib.hid hown
  have B1 : Hid (Below w.heap.size w w1) := Lib.hid ((Below.refl _ _).grown hg (Nat.le_refl _) (fun _ h => by cases h))
  clear hown hg hi hz0 hz1 hz2
  go_wp2
  go_loopw [6, 2] (fun c u wr => ∃ k : Nat, k ≤ 32 ∧ c = .int .i64 k ∧ Hid (OwnAt wr w.heap.size 3 .i64 w.heap.size 32 32 (fillTo distF 32 k)) ∧ Hid (Below w.heap.size w wr)) (fun c _ _ => 32 - (intOf c).toNat)
  case atStart => exact ⟨0, Nat.zero_le _, rfl, H1, B1⟩
  case round =>
    obtain ⟨k, hk, rfl, hO, hB⟩ := hrel
    clear H1 B1
    by_cases hlt : k < 32
    · obtain ⟨old, hc⟩ : ∃ old, wr.cell? ⟨w.heap.size, k, none⟩ = some (.int .i64 old) := ⟨_, hO.out.cell hlt⟩
      have hf := hO.out.free k
      have HV1 : Hid (OwnAt (wr.setCell ⟨w.heap.size, k, none⟩ (.int .i64 5)) w.heap.size 3 .i64 w.heap.size 32 32 (fillTo distF 32 (k + 1))) := by
        rw [← fillTo_set]
        exact Lib.hid (hO.out.put k _)
      have HV2 := Lib.hid (hB.out.setCell (p := ⟨w.heap.size, k, none⟩) (Nat.le_refl _) (.int .i64 5))
      go_wp2
      go_roundw
      case rel => exact ⟨k + 1, by omega, by go_num, HV1, HV2⟩
      case measure => simp [intOf]; omega
    · obtain rfl : k = 32 := by omega
      go_wp2
      go_ret
      exact ⟨rfl, by rw [← fillTo_all distF 32 32 (Nat.le_refl _)]; exact hO.out, hB.out⟩
set_option maxHeartbeats 400000 in
theorem ints_same (A B : Option Addr) (n c d : Nat) (ns : List Int) (S T : Nat → Prop) (w : World) (hA : Lst w S 1 A n (ns.map (Value.int .i64))) (hB : Lst w T 1 B n (ns.map (Value.int .i64))) (hn : n ≤ 9223372036854775807) :
    Calls Tryd.prog 13 #[.slice A n c, .slice B n d] w fun e w' => e = .returned (.bool true) ∧ Below w.heap.size w w' := by
  have HA := Lib.hid hA
  have HB := Lib.hid hB
  clear hA hB
  go_enter Tryd.func13, Tryd.ntmps13
  go_wp2
  go_loopw [5] (fun i wr => ∃ k : Nat, k ≤ n ∧ i = .int .i64 k ∧ Hid (Below w.heap.size w wr)) (fun i _ => n - (intOf i).toNat)
  case atStart => exact ⟨0, Nat.zero_le _, rfl, Below.refl _ _⟩
  case round =>
    obtain ⟨k, hk, rfl, hW⟩ := hrel
    by_cases hlt : k < n
    · obtain ⟨b, off, rfl, l1, _, hc⟩ := (HA.out.below hW.out).int_at hlt
      obtain ⟨b', off', rfl, l2, _, hc'⟩ := (HB.out.below hW.out).int_at hlt
      generalize ns.getD k 0 = v at *
      have k0 : (0 : Int) ≤ (k : Int) := by omega
      have k1 : (k : Int) < (n : Int) := by omega
      go_wp2
      go_quiet (fail)
      go_wp2
      go_roundw
      case rel => exact ⟨k + 1, by omega, by go_num, Lib.hid (hW.out.drewN' _)⟩
      case measure => simp [intOf]; omega
    · go_wp2
      go_ret
      exact ⟨rfl, hW.out⟩
end Go.Proofs.YtgncenladhempaaDoor
