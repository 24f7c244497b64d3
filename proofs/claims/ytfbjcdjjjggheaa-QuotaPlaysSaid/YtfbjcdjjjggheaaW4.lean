import Derived.Test.YtfbjcdjjjggheaaW3
namespace Go.Proofs.Ytfbjcdjjjggheaa
open Go.RowKit

/-- What 'Less' of the page leaves. -/
def LessPost (A1 : Option Addr) (n1 c1 : Nat) (W S code : Int) (ms' : List Int) (R : Nat → Prop) (w : World) (e : Ending) (w' : World) : Prop :=
  ∃ A2' n2' c2', e = .returned (.tuple #[racc A1 A2' n1 c1 n2' c2' W S, .int .i64 code]) ∧ Below w.heap.size w w' ∧ Lst w' (fun b => R b ∨ w.heap.size ≤ b) 1 A2' n2' (ms'.map (Value.int .i64))
def doneN (a n : Int) (ms : List Int) : List Int := if doneC a n = 0 then ms ++ [n] else ms
set_option maxHeartbeats 1000000 in
theorem rless_any (A1 A2 : Option Addr) (n1 c1 n2 c2 : Nat) (W S n : Int) (ns ms : List Int) (R : Nat → Prop) (w : World) (hL : Lst w R 1 A1 n1 (ns.map (Value.int .i64))) (hM : Lst w R 1 A2 n2 (ms.map (Value.int .i64))) (hb : Small ns) (hl : n1 ≤ 90) (hb' : Small ms) (hl' : n2 ≤ 90) :
    Calls Try.prog 9 #[racc A1 A2 n1 c1 n2 c2 W S, .int .i64 n] w (LessPost A1 n1 c1 W S (doneC (ns.sum - ms.sum) n) (doneN (ns.sum - ms.sum) n ms) R w) := by
  have HL := Lib.hid hL.and_lt
  have HM := Lib.hid hM.and_lt
  clear hL hM
  by_cases h1 : n < 0
  · have e0 : doneC (ns.sum - ms.sum) n = 1 := if_pos (Or.inl h1)
    unfold doneN
    rw [e0]
    go_enter Try.func9, Try.ntmps9
    go_wp2
    refine bodyPost_ret (v := .tuple #[racc A1 A2 n1 c1 n2 c2 W S, .int .i64 1]) (by simp [results, Try.results9, go_sem]) rfl ⟨A2, n2, c2, rfl, ?_, ?_⟩
    · exact ((Below.refl _ _).alloc (Nat.le_refl _) _).alloc (by simp) _
    · exact (((HM.out.alloc _).alloc _)).mono fun b h => Or.inl h.1
  have HL2 := Lib.hid ((HL.out.alloc (.cells #[.slice A1 n1 c1, .slice A2 n2 c2, .int .i64 W, .int .i64 S] 32)).alloc (.cells #[.slice none 0 0, .slice none 0 0, .int .i64 0, .int .i64 0] 32))
  have HM2 := Lib.hid ((HM.out.alloc (.cells #[.slice A1 n1 c1, .slice A2 n2 c2, .int .i64 W, .int .i64 S] 32)).alloc (.cells #[.slice none 0 0, .slice none 0 0, .int .i64 0, .int .i64 0] 32))
  by_cases h2 : ns.sum - ms.sum < n
  · have e0 : doneC (ns.sum - ms.sum) n = 1 := if_pos (Or.inr h2)
    unfold doneN
    rw [e0]
    go_enter Try.func9, Try.ntmps9
    go_wp2_with fail
    refine (waiting_any A1 A2 n1 c1 n2 c2 W S ns ms _ _ HL2.out HM2.out hb (by omega) hb' (by omega)).mono ?_
    rintro e x1 ⟨rfl, hx1⟩
    have X1 := ((Whole.new w 32 #[.slice A1 n1 c1, .slice A2 n2 c2, .int .i64 W, .int .i64 S] rfl).alloc (.cells #[.slice none 0 0, .slice none 0 0, .int .i64 0, .int .i64 0] 32)).below' hx1
    have Y1 : Whole x1 (w.heap.size + 1) 32 #[.slice none 0 0, .slice none 0 0, .int .i64 0, .int .i64 0] := (Whole.new _ 32 _ (by simp)).below' hx1
    have HM3 := Lib.hid (HM2.out.below hx1)
    have B1 := Lib.hid ((((Below.refl _ _).alloc (Nat.le_refl w.heap.size) _).alloc (by simp) _).trans (hx1.mono (by simp; omega)))
    have cx := X1.cell
    have cy := Y1.cell
    have fy := Y1.free
    clear hx1 HL2 HM2
    go_wp2
    refine bodyPost_ret (v := .tuple #[racc A1 A2 n1 c1 n2 c2 W S, .int .i64 1]) (by simp [results, Try.results9, go_sem, cy, fy]) rfl ⟨A2, n2, c2, rfl, ?_, ?_⟩
    · exact (((B1.out.setCell (by simp) _).setCell (by simp) _).setCell (by simp) _).setCell (by simp) _
    · exact ((((HM3.out.put _ (by rintro b ⟨_, hb⟩; simp; omega)).put _ (by rintro b ⟨_, hb⟩; simp; omega)).put _ (by rintro b ⟨_, hb⟩; simp; omega)).put _ (by rintro b ⟨_, hb⟩; simp; omega)).mono fun b h => Or.inl h.1
  · have e0 : doneC (ns.sum - ms.sum) n = 0 := if_neg (by omega)
    unfold doneN
    rw [e0]
    go_enter Try.func9, Try.ntmps9
    go_wp2_with fail
    refine (waiting_any A1 A2 n1 c1 n2 c2 W S ns ms _ _ HL2.out HM2.out hb (by omega) hb' (by omega)).mono ?_
    rintro e x2 ⟨rfl, hx1⟩
    have X2 := ((Whole.new w 32 #[.slice A1 n1 c1, .slice A2 n2 c2, .int .i64 W, .int .i64 S] rfl).alloc (.cells #[.slice none 0 0, .slice none 0 0, .int .i64 0, .int .i64 0] 32)).below' hx1
    have Y2 : Whole x2 (w.heap.size + 1) 32 #[.slice none 0 0, .slice none 0 0, .int .i64 0, .int .i64 0] := (Whole.new _ 32 _ (by simp)).below' hx1
    have HM4 := Lib.hid (HM2.out.below hx1)
    have B2 := Lib.hid ((((Below.refl _ _).alloc (Nat.le_refl w.heap.size) _).alloc (by simp) _).trans (hx1.mono (by simp; omega)))
    have cx := X2.cell
    have cy := Y2.cell
    have fy := Y2.free
    have lx := X2.lt
    have ly := Y2.lt
    clear hx1 HL2 HM2
    obtain ⟨i0, hi, hz0, hz1, hz2⟩ := info_parts info3
    go_wp2_with (at_builtin; refine wpList_append_list _ rfl (.tmp 15) (.tmp 17) 30 rfl x2.heap.size 3 i0 (.int .i64 0) 1 8 Try.underlying30 hi hz0 hz1 hz2 rfl (by decide) _ 0 [] rfl (World.ownsRow_lit x2 #[] 0 (Nat.le_refl _) (Nat.zero_le _) rfl) _ A2 n2 c2 _ rfl (HM4.out.alloc _) oneCell_ints (by unfold maxLen; omega) (by omega) (by simp) ?_)
    intro A3 c3 x3 hown3 hgrow3 hat3
    try simp only [Nat.zero_add, List.nil_append] at hown3
    have X3 := (X2.alloc (.cells #[] 3)).grown hgrow3 (by simp [Value.ownBlock]; omega)
    have Y3 := (Y2.alloc (.cells #[] 3)).grown hgrow3 (by simp [Value.ownBlock]; omega)
    have B3 := Lib.hid ((B2.out.alloc B2.out.size (.cells #[] 3)).grown hgrow3 (by have := B2.out.size; simp; omega) (by have := B2.out.size; simp [Value.ownBlock]; omega))
    have Z3 : x2.heap.size + 1 ≤ x3.heap.size := by have := hgrow3.size; simpa using this
    have OW := Lib.hid hown3
    have cx3 := X3.cell
    have cy3 := Y3.cell
    have fx3 := X3.free
    have lx3 := X3.lt
    have ly3 := Y3.lt
    have HO := Lib.hid (fun g (e : (Value.slice A3 n2 c3).ownBlock = some g) => (hown3.lt g e))
    clear hown3 hgrow3 hat3 cx cy fy
    go_wp2_with (at_builtin; refine wpList_append_list _ rfl (.tmp 18) (.tmp 20) 30 rfl x2.heap.size 3 i0 (.int .i64 0) 1 8 Try.underlying30 hi hz0 hz1 hz2 rfl (by decide) _ n2 _ rfl (OW.out.alloc _) _ _ 1 1 _ rfl (Lst.new x3 3 #[.int .i64 n] 1 rfl rfl) (by simp [Value.oneCell']) (by unfold maxLen; omega) (by omega) (by simp; omega) ?_)
    intro A4 c4 x4 hown4 hgrow4 hat4
    have ne0 : some w.heap.size ≠ (Value.slice A3 n2 c3).ownBlock := fun e => by have := (HO.out _ e.symm).1; omega
    have ne1 : some (w.heap.size + 1) ≠ (Value.slice A3 n2 c3).ownBlock := fun e => by have := (HO.out _ e.symm).1; omega
    have X4 := (X3.alloc (.cells #[.int .i64 n] 3)).grown hgrow4 ne0
    have Y4 := (Y3.alloc (.cells #[.int .i64 n] 3)).grown hgrow4 ne1
    have B4 := Lib.hid ((B3.out.alloc B3.out.size (.cells #[.int .i64 n] 3)).grown hgrow4 (by have := B3.out.size; simp; omega) (fun k e => by have := (HO.out _ e).1; omega))
    have L4 := Lib.hid (Lst.of_own hown4)
    have cx4 := X4.cell
    have cy4 := Y4.cell
    have fx4 := X4.free
    have fy4 := Y4.free
    have lx4 := X4.lt
    have ly4 := Y4.lt
    clear hown4 hgrow4 hat4 ne0 ne1 cx3 cy3 fx3 lx3 ly3 X3 Y3 X2 Y2 X4 Y4
    go_wp2
    refine bodyPost_ret (v := .tuple #[racc A1 A4 n1 c1 (n2 + 1) c4 W S, .int .i64 0]) (by simp [results, Try.results9, go_sem, cy4, fy4]) rfl ⟨A4, n2 + 1, c4, rfl, ?_, ?_⟩
    · exact ((((B4.out.setCell (by simp) _).setCell (by simp) _).setCell (by simp) _).setCell (by simp) _).setCell (by simp) _
    · rw [List.map_append]
      refine Lst.mono (S := fun b => x2.heap.size ≤ b) ?_ (fun b h => Or.inr (by omega))
      iterate 5 refine Lst.put ?_ _ (by intro b hb; simp; omega)
      exact L4.out
end Go.Proofs.Ytfbjcdjjjggheaa
