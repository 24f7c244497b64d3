import Derived.Test.YtfbjcdjjjggheaaW2
import Derived.Test.YtfbjcdjjjggheaaList
import Derived.Deep.RegionWith
namespace Go.Proofs.Ytfbjcdjjjggheaa
open Go.RowKit

theorem sum_take (ns : List Int) (k : Nat) (h : k < ns.length) : (ns.take (k + 1)).sum = (ns.take k).sum + ns.getD k 0 := by
  rw [List.take_succ_eq_append_getElem h, List.sum_append]
  simp [List.getD, h]
theorem sum_bd (ns : List Int) (h : ∀ x ∈ ns, 0 ≤ x ∧ x ≤ 16777216) : 0 ≤ ns.sum ∧ ns.sum ≤ 16777216 * ns.length := by
  induction ns with
  | nil => simp
  | cons x ns ih =>
    have h1 := h x (by simp)
    have h2 := ih fun y hy => h y (by simp [hy])
    simp only [List.sum_cons, List.length_cons]
    omega
theorem sum_take_bd (ns : List Int) (k : Nat) (h : ∀ x ∈ ns, 0 ≤ x ∧ x ≤ 16777216) (hl : ns.length ≤ 100) : 0 ≤ (ns.take k).sum ∧ (ns.take k).sum ≤ 1677721600 := by
  have := sum_bd (ns.take k) fun x hx => h x (List.mem_of_mem_take hx)
  have h2 : (ns.take k).length ≤ 100 := by simp; omega
  omega
set_option maxHeartbeats 400000 in
theorem sum_any (A : Option Addr) (n c : Nat) (ns : List Int) (S : Nat → Prop) (w : World) (hL : Lst w S 1 A n (ns.map (Value.int .i64))) (hb : ∀ x ∈ ns, 0 ≤ x ∧ x ≤ 16777216) (hl : n ≤ 100) :
    Calls Try.prog 18 #[.slice A n c] w fun e w' => e = .returned (.int .i64 ns.sum) ∧ w = w' := by
  have hn : ns.length = n := by have := hL.len; simpa using this
  subst hn
  have HL := Lib.hid hL
  have HB := Lib.hid hb
  clear hL hb
  go_enter Try.func18, Try.ntmps18
  go_wp2
  go_loop [3, 4] (fun t i => ∃ k : Nat, k ≤ ns.length ∧ i = .int .i64 k ∧ t = .int .i64 (ns.take k).sum) (fun _ i => ns.length - (intOf i).toNat)
  case atStart => exact ⟨0, Nat.zero_le _, rfl, rfl⟩
  case round =>
    obtain ⟨k, hk, rfl, rfl⟩ := hrel
    by_cases hlt : k < ns.length
    · obtain ⟨b, off, rfl, _, _, hc⟩ := HL.out.int_at hlt
      have h1 := sum_take_bd ns k HB.out hl
      have h2 := sum_take_bd ns (k + 1) HB.out hl
      have HS := Lib.hid (sum_take ns k hlt)
      rw [HS.out] at h2
      generalize hv : ns.getD k 0 = v at *
      clear hv
      go_wp2
      go_round
      case rel => exact ⟨k + 1, by omega, by go_num, by rw [HS.out]⟩
      case measure => simp [intOf]; omega
    · go_wp2
      go_ret
      exact ⟨ret_int (by rw [List.take_of_length_le (by omega)]), rfl⟩

theorem info3 : (Try.prog.info? 3).map (fun i => (i.zero, i.size, i.bytes)) = some (some (.int .i64 0), 1, 8) := by kernel_rfl
abbrev racc (A1 A2 : Option Addr) (n1 c1 n2 c2 : Nat) (W S : Int) : Value := .agg #[.slice A1 n1 c1, .slice A2 n2 c2, .int .i64 W, .int .i64 S]
def Small (ns : List Int) : Prop := ∀ x ∈ ns, 0 ≤ x ∧ x ≤ 16777216
set_option maxHeartbeats 400000 in
theorem size_any (A1 A2 : Option Addr) (n1 c1 n2 c2 : Nat) (W S : Int) (ns : List Int) (R : Nat → Prop) (w : World) (hL : Lst w R 1 A1 n1 (ns.map (Value.int .i64))) (hb : Small ns) (hl : n1 ≤ 100) :
    Calls Try.prog 13 #[racc A1 A2 n1 c1 n2 c2 W S] w fun e w' => e = .returned (.int .i64 ns.sum) ∧ Below w.heap.size w w' := by
  go_enter Try.func13, Try.ntmps13
  go_wp2_with fail
  refine (sum_any A1 n1 c1 ns R _ (hL.alloc _) hb hl).mono ?_
  rintro e w1 ⟨rfl, rfl⟩
  go_wp2
  go_ret
  exact ⟨rfl, (Below.refl _ _).alloc (Nat.le_refl _) _⟩
set_option maxHeartbeats 400000 in
theorem waiting_any (A1 A2 : Option Addr) (n1 c1 n2 c2 : Nat) (W S : Int) (ns ms : List Int) (R : Nat → Prop) (w : World) (hL : Lst w R 1 A1 n1 (ns.map (Value.int .i64))) (hM : Lst w R 1 A2 n2 (ms.map (Value.int .i64))) (hb : Small ns) (hl : n1 ≤ 100) (hb' : Small ms) (hl' : n2 ≤ 100) :
    Calls Try.prog 12 #[racc A1 A2 n1 c1 n2 c2 W S] w fun e w' => e = .returned (.int .i64 (ns.sum - ms.sum)) ∧ Below w.heap.size w w' := by
  go_enter Try.func12, Try.ntmps12
  go_wp2
  have s1 := sum_bd ns hb
  have s2 := sum_bd ms hb'
  have e1 : ns.length = n1 := by have := hL.len; simpa using this
  have e2 : ms.length = n2 := by have := hM.len; simpa using this
  have b1 : ns.sum ≤ 1677721600 := by omega
  have b2 : ms.sum ≤ 1677721600 := by omega
  have b3 := s1.1
  have b4 := s2.1
  clear s1 s2 e1 e2
  have HL := Lib.hid (hL.alloc (.cells #[.slice A1 n1 c1, .slice A2 n2 c2, .int .i64 W, .int .i64 S] 32))
  have HM := Lib.hid (hM.alloc (.cells #[.slice A1 n1 c1, .slice A2 n2 c2, .int .i64 W, .int .i64 S] 32))
  clear hL hM
  go_quiet ((first | (go_at_call_of 18 (Value.slice A1 n1 c1); exact Calls.quiet_eq (sum_any A1 n1 c1 ns R _ (HL.out.drewN _) hb hl)) | (go_at_call_of 18 (Value.slice A2 n2 c2); exact Calls.quiet_eq (sum_any A2 n2 c2 ms R _ (HM.out.drewN _) hb' hl'))))
  go_wp2
  go_ret
  exact ⟨rfl, ((Below.refl _ _).alloc (Nat.le_refl _) _).drewN' _⟩

/-- What 'Add' of the page leaves. -/
def AddPost (A2 : Option Addr) (n2 c2 : Nat) (W S code : Int) (ns' : List Int) (R : Nat → Prop) (w : World) (e : Ending) (w' : World) : Prop :=
  ∃ A1' n1' c1', e = .returned (.tuple #[racc A1' A2 n1' c1' n2 c2 W S, .int .i64 code]) ∧ Below w.heap.size w w' ∧ Lst w' (fun b => R b ∨ w.heap.size ≤ b) 1 A1' n1' (ns'.map (Value.int .i64))
def addN (W S a s n : Int) (ns : List Int) : List Int := if addC W S a s n = 0 then ns ++ [n] else ns
set_option maxHeartbeats 1000000 in
theorem radd_any (A1 A2 : Option Addr) (n1 c1 n2 c2 : Nat) (W S n : Int) (ns ms : List Int) (R : Nat → Prop) (w : World) (hL : Lst w R 1 A1 n1 (ns.map (Value.int .i64))) (hM : Lst w R 1 A2 n2 (ms.map (Value.int .i64))) (hb : Small ns) (hl : n1 ≤ 90) (hb' : Small ms) (hl' : n2 ≤ 90)
    (hw : 0 ≤ W ∧ W ≤ 16777216) (hs : 0 ≤ S ∧ S ≤ 16777216) :
    Calls Try.prog 11 #[racc A1 A2 n1 c1 n2 c2 W S, .int .i64 n] w (AddPost A2 n2 c2 W S (addC W S (ns.sum - ms.sum) ns.sum n) (addN W S (ns.sum - ms.sum) ns.sum n ns) R w) := by
  have s1 := sum_bd ns hb
  have s2 := sum_bd ms hb'
  have e1 : ns.length = n1 := by have := hL.len; simpa using this
  have e2 : ms.length = n2 := by have := hM.len; simpa using this
  have b1 : ns.sum ≤ 1677721600 := by omega
  have b2 : ms.sum ≤ 1677721600 := by omega
  have b3 := s1.1
  have b4 := s2.1
  obtain ⟨w0, w1⟩ := hw
  obtain ⟨t0, t1⟩ := hs
  clear s1 s2 e1 e2
  have HL := Lib.hid hL.and_lt
  have HM := Lib.hid hM.and_lt
  clear hL hM
  have HL2 := Lib.hid ((HL.out.alloc (.cells #[.slice A1 n1 c1, .slice A2 n2 c2, .int .i64 W, .int .i64 S] 32)).alloc (.cells #[.slice none 0 0, .slice none 0 0, .int .i64 0, .int .i64 0] 32))
  have HM2 := Lib.hid ((HM.out.alloc (.cells #[.slice A1 n1 c1, .slice A2 n2 c2, .int .i64 W, .int .i64 S] 32)).alloc (.cells #[.slice none 0 0, .slice none 0 0, .int .i64 0, .int .i64 0] 32))
  by_cases h1 : n < 0
  · have e0 : addC W S (ns.sum - ms.sum) ns.sum n = 1 := if_pos h1
    unfold addN
    rw [e0]
    go_enter Try.func11, Try.ntmps11
    go_wp2
    refine bodyPost_ret (v := .tuple #[racc A1 A2 n1 c1 n2 c2 W S, .int .i64 1]) (by simp [results, Try.results11, go_sem]) rfl ⟨A1, n1, c1, rfl, ?_, ?_⟩
    · exact ((Below.refl _ _).alloc (Nat.le_refl _) _).alloc (by simp) _
    · exact (((HL.out.alloc _).alloc _)).mono fun b h => Or.inl h.1
  by_cases h2 : S - ns.sum < n
  · have e0 : addC W S (ns.sum - ms.sum) ns.sum n = 13 := by unfold addC; rw [if_neg h1, if_pos h2]
    unfold addN
    rw [e0]
    go_enter Try.func11, Try.ntmps11
    go_wp2
    refine wp_region_over (by kernel_rfl) (by kernel_rfl) ?_
    repeat (go_big_quiet_step ((go_at_call 13; exact Calls.over_of (size_any A1 A2 n1 c1 n2 c2 W S ns _ _ (HL2.out.below (World.over_below _ _)) hb (by omega)))))
    refine wpQuiet_nil ?_
    intro x1 hx1
    have X1 := ((Whole.new w 32 #[.slice A1 n1 c1, .slice A2 n2 c2, .int .i64 W, .int .i64 S] rfl).alloc (.cells #[.slice none 0 0, .slice none 0 0, .int .i64 0, .int .i64 0] 32)).below' hx1
    have Y1 : Whole x1 (w.heap.size + 1) 32 #[.slice none 0 0, .slice none 0 0, .int .i64 0, .int .i64 0] := (Whole.new _ 32 _ (by simp)).below' hx1
    have HL3 := Lib.hid (HL2.out.below hx1)
    have HM3 := Lib.hid (HM2.out.below hx1)
    have B1 := Lib.hid ((((Below.refl _ _).alloc (Nat.le_refl w.heap.size) _).alloc (by simp) _).trans (hx1.mono (by simp; omega)))
    have cx := X1.cell
    have cy := Y1.cell
    have fy := Y1.free
    clear hx1 HL2 HM2
    go_wp2
    refine bodyPost_ret (v := .tuple #[racc A1 A2 n1 c1 n2 c2 W S, .int .i64 13]) (by simp [results, Try.results11, go_sem, cy, fy]) rfl ⟨A1, n1, c1, rfl, ?_, ?_⟩
    · exact (((B1.out.setCell (by simp) _).setCell (by simp) _).setCell (by simp) _).setCell (by simp) _
    · exact ((((HL3.out.put _ (by rintro b ⟨_, hb⟩; simp; omega)).put _ (by rintro b ⟨_, hb⟩; simp; omega)).put _ (by rintro b ⟨_, hb⟩; simp; omega)).put _ (by rintro b ⟨_, hb⟩; simp; omega)).mono fun b h => Or.inl h.1
  by_cases h3 : W - (ns.sum - ms.sum) < n
  · have e0 : addC W S (ns.sum - ms.sum) ns.sum n = 9 := by unfold addC; rw [if_neg h1, if_neg h2, if_pos h3]
    unfold addN
    rw [e0]
    go_enter Try.func11, Try.ntmps11
    go_wp2
    refine wp_region_over (by kernel_rfl) (by kernel_rfl) ?_
    repeat (go_big_quiet_step ((go_at_call 13; exact Calls.over_of (size_any A1 A2 n1 c1 n2 c2 W S ns _ _ (HL2.out.below (World.over_below _ _)) hb (by omega)))))
    refine wpQuiet_nil ?_
    intro x1 hx1
    have X1 := ((Whole.new w 32 #[.slice A1 n1 c1, .slice A2 n2 c2, .int .i64 W, .int .i64 S] rfl).alloc (.cells #[.slice none 0 0, .slice none 0 0, .int .i64 0, .int .i64 0] 32)).below' hx1
    have Y1 : Whole x1 (w.heap.size + 1) 32 #[.slice none 0 0, .slice none 0 0, .int .i64 0, .int .i64 0] := (Whole.new _ 32 _ (by simp)).below' hx1
    have HL3 := Lib.hid (HL2.out.below hx1)
    have HM3 := Lib.hid (HM2.out.below hx1)
    have B1 := Lib.hid ((((Below.refl _ _).alloc (Nat.le_refl w.heap.size) _).alloc (by simp) _).trans (hx1.mono (by simp; omega)))
    have cx := X1.cell
    have cy := Y1.cell
    have fy := Y1.free
    clear hx1 HL2 HM2
    go_wp2
    have lx := X1.lt
    refine wp_region_over (by kernel_rfl) (by kernel_rfl) ?_
    repeat (go_big_quiet_step ((go_at_call 12; exact Calls.over_of (waiting_any A1 A2 n1 c1 n2 c2 W S ns ms _ _ (HL3.out.below (World.over_below _ _)) (HM3.out.below (World.over_below _ _)) hb (by omega) hb' (by omega)))))
    refine wpQuiet_nil ?_
    intro x2 hx2
    have X2 := X1.below' hx2
    have Y2 := Y1.below' hx2
    have HL4 := Lib.hid (HL3.out.below hx2)
    have HM4 := Lib.hid (HM3.out.below hx2)
    have B2 := Lib.hid (B1.out.trans (hx2.mono B1.out.size))
    clear hx2 cx cy fy HL3 HM3 B1 lx X1 Y1
    have cx := X2.cell
    have cy := Y2.cell
    have fy := Y2.free
    have lx := X2.lt
    have ly := Y2.lt
    go_wp2
    refine bodyPost_ret (v := .tuple #[racc A1 A2 n1 c1 n2 c2 W S, .int .i64 9]) (by simp [results, Try.results11, go_sem, cy, fy]) rfl ⟨A1, n1, c1, rfl, ?_, ?_⟩
    · exact (((B2.out.setCell (by simp) _).setCell (by simp) _).setCell (by simp) _).setCell (by simp) _
    · exact ((((HL4.out.put _ (by rintro b ⟨_, hb⟩; simp; omega)).put _ (by rintro b ⟨_, hb⟩; simp; omega)).put _ (by rintro b ⟨_, hb⟩; simp; omega)).put _ (by rintro b ⟨_, hb⟩; simp; omega)).mono fun b h => Or.inl h.1
  · have e0 : addC W S (ns.sum - ms.sum) ns.sum n = 0 := by unfold addC; rw [if_neg h1, if_neg h2, if_neg h3]
    unfold addN
    rw [e0]
    go_enter Try.func11, Try.ntmps11
    go_wp2
    refine wp_region_over (by kernel_rfl) (by kernel_rfl) ?_
    repeat (go_big_quiet_step ((go_at_call 13; exact Calls.over_of (size_any A1 A2 n1 c1 n2 c2 W S ns _ _ (HL2.out.below (World.over_below _ _)) hb (by omega)))))
    refine wpQuiet_nil ?_
    intro x1 hx1
    have X1 := ((Whole.new w 32 #[.slice A1 n1 c1, .slice A2 n2 c2, .int .i64 W, .int .i64 S] rfl).alloc (.cells #[.slice none 0 0, .slice none 0 0, .int .i64 0, .int .i64 0] 32)).below' hx1
    have Y1 : Whole x1 (w.heap.size + 1) 32 #[.slice none 0 0, .slice none 0 0, .int .i64 0, .int .i64 0] := (Whole.new _ 32 _ (by simp)).below' hx1
    have HL3 := Lib.hid (HL2.out.below hx1)
    have HM3 := Lib.hid (HM2.out.below hx1)
    have B1 := Lib.hid ((((Below.refl _ _).alloc (Nat.le_refl w.heap.size) _).alloc (by simp) _).trans (hx1.mono (by simp; omega)))
    have cx := X1.cell
    have cy := Y1.cell
    have fy := Y1.free
    clear hx1 HL2 HM2
    go_wp2
    have lx := X1.lt
    refine wp_region_over (by kernel_rfl) (by kernel_rfl) ?_
    repeat (go_big_quiet_step ((go_at_call 12; exact Calls.over_of (waiting_any A1 A2 n1 c1 n2 c2 W S ns ms _ _ (HL3.out.below (World.over_below _ _)) (HM3.out.below (World.over_below _ _)) hb (by omega) hb' (by omega)))))
    refine wpQuiet_nil ?_
    intro x2 hx2
    have X2 := X1.below' hx2
    have Y2 := Y1.below' hx2
    have HL4 := Lib.hid (HL3.out.below hx2)
    have HM4 := Lib.hid (HM3.out.below hx2)
    have B2 := Lib.hid (B1.out.trans (hx2.mono B1.out.size))
    clear hx2 cx cy fy HL3 HM3 B1 lx X1 Y1
    have cx := X2.cell
    have cy := Y2.cell
    have fy := Y2.free
    have lx := X2.lt
    have ly := Y2.lt
    obtain ⟨i0, hi, hz0, hz1, hz2⟩ := info_parts info3
    go_wp2_with (at_builtin; refine wpList_append_list _ rfl (.tmp 25) (.tmp 27) 30 rfl x2.heap.size 3 i0 (.int .i64 0) 1 8 Try.underlying30 hi hz0 hz1 hz2 rfl (by decide) _ 0 [] rfl (World.ownsRow_lit x2 #[] 0 (Nat.le_refl _) (Nat.zero_le _) rfl) _ A1 n1 c1 _ rfl (HL4.out.alloc _) oneCell_ints (by unfold maxLen; omega) (by omega) (by simp) ?_)
    intro A3 c3 x3 hown3 hgrow3 hat3
    try simp only [Nat.zero_add, List.nil_append] at hown3
    have X3 := (X2.alloc (.cells #[] 3)).grown hgrow3 (by simp [Value.ownBlock]; omega)
    have Y3 := (Y2.alloc (.cells #[] 3)).grown hgrow3 (by simp [Value.ownBlock]; omega)
    have B3 := Lib.hid ((B2.out.alloc B2.out.size (.cells #[] 3)).grown hgrow3 (by have := B2.out.size; simp; omega) (by have := B2.out.size; simp [Value.ownBlock]; omega))
    have Z3 : x2.heap.size + 1 ≤ x3.heap.size := by have := hgrow3.size; simpa using this
    have OW := Lib.hid hown3
    have cx3 := X3.cell
    have cy3 := Y3.cell
    have fx3 := X3.free
    have lx3 := X3.lt
    have ly3 := Y3.lt
    have HO := Lib.hid (fun g (e : (Value.slice A3 n1 c3).ownBlock = some g) => (hown3.lt g e))
    clear hown3 hgrow3 hat3 cx cy fy
    go_wp2_with (at_builtin; refine wpList_append_list _ rfl (.tmp 28) (.tmp 30) 30 rfl x2.heap.size 3 i0 (.int .i64 0) 1 8 Try.underlying30 hi hz0 hz1 hz2 rfl (by decide) _ n1 _ rfl (OW.out.alloc _) _ _ 1 1 _ rfl (Lst.new x3 3 #[.int .i64 n] 1 rfl rfl) (by simp [Value.oneCell']) (by unfold maxLen; omega) (by omega) (by simp; omega) ?_)
    intro A4 c4 x4 hown4 hgrow4 hat4
    have ne0 : some w.heap.size ≠ (Value.slice A3 n1 c3).ownBlock := fun e => by have := (HO.out _ e.symm).1; omega
    have ne1 : some (w.heap.size + 1) ≠ (Value.slice A3 n1 c3).ownBlock := fun e => by have := (HO.out _ e.symm).1; omega
    have X4 := (X3.alloc (.cells #[.int .i64 n] 3)).grown hgrow4 ne0
    have Y4 := (Y3.alloc (.cells #[.int .i64 n] 3)).grown hgrow4 ne1
    have B4 := Lib.hid ((B3.out.alloc B3.out.size (.cells #[.int .i64 n] 3)).grown hgrow4 (by have := B3.out.size; simp; omega) (fun k e => by have := (HO.out _ e).1; omega))
    have L4 := Lib.hid (Lst.of_own hown4)
    have cx4 := X4.cell
    have cy4 := Y4.cell
    have fx4 := X4.free
    have fy4 := Y4.free
    have lx4 := X4.lt
    have ly4 := Y4.lt
    clear hown4 hgrow4 hat4 ne0 ne1 cx3 cy3 fx3 lx3 ly3 X3 Y3 X2 Y2 X4 Y4
    go_wp2
    refine bodyPost_ret (v := .tuple #[racc A4 A2 (n1 + 1) c4 n2 c2 W S, .int .i64 0]) (by simp [results, Try.results11, go_sem, cy4, fy4]) rfl ⟨A4, n1 + 1, c4, rfl, ?_, ?_⟩
    · exact ((((B4.out.setCell (by simp) _).setCell (by simp) _).setCell (by simp) _).setCell (by simp) _).setCell (by simp) _
    · rw [List.map_append]
      refine Lst.mono (S := fun b => x2.heap.size ≤ b) ?_ (fun b h => Or.inr (by omega))
      iterate 5 refine Lst.put ?_ _ (by intro b hb; simp; omega)
      exact L4.out
end Go.Proofs.Ytfbjcdjjjggheaa
