import Derived.Test.YtfbjcdjjjggheaaW4
import Derived.Deep.RegionHeld3
import Derived.Deep.DeepCutAuto
import Derived.Deep.DrawnRows
namespace Go.Proofs.Ytfbjcdjjjggheaa
open Go.RowKit
attribute [local go_sem ↓] Go.wp_at_zero Go.wp_at_succ

theorem waits_any (g : Nat) (W S a s p : Int) (w : World) (hA : Acc w g W S a s p) : Calls Try.prog 14 #[.pointer (some ⟨g, 0, none⟩)] w fun e w' => e = .returned (.int .i64 a) ∧ w = w' := by
  have c := hA.cell
  go_enter Try.func14, Try.ntmps14
  go_wp2
  go_ret
  exact ⟨rfl, rfl⟩
theorem sizes_any (g : Nat) (W S a s p : Int) (w : World) (hA : Acc w g W S a s p) : Calls Try.prog 15 #[.pointer (some ⟨g, 0, none⟩)] w fun e w' => e = .returned (.int .i64 s) ∧ w = w' := by
  have c := hA.cell
  go_enter Try.func15, Try.ntmps15
  go_wp2
  go_ret
  exact ⟨rfl, rfl⟩
theorem peaks_any (g : Nat) (W S a s p : Int) (w : World) (hA : Acc w g W S a s p) : Calls Try.prog 16 #[.pointer (some ⟨g, 0, none⟩)] w fun e w' => e = .returned (.int .i64 p) ∧ w = w' := by
  have c := hA.cell
  go_enter Try.func16, Try.ntmps16
  go_wp2
  go_ret
  exact ⟨rfl, rfl⟩
def QuietInt (n : Int) (w : World) (e : Ending) (w' : World) : Prop := e = .returned (.int .i64 n) ∧ ∃ k, w' = w.drewN k
theorem room_quiet (g : Nat) (W S a s p : Int) (w : World) (hA : Acc w g W S a s p) (hI : Inv W S a s p) :
    Calls Try.prog 17 #[.pointer (some ⟨g, 0, none⟩)] w (QuietInt (min (S - s) (W - a)) w) := by
  obtain ⟨i1, i2, i3, i4, i5, i6, i7, i8, i9, i10⟩ := hI
  have c := hA.cell
  go_enter Try.func17, Try.ntmps17
  go_wp2
  go_quiet (fail)
  go_wp2
  all_goals
    go_ret
    exact ⟨ret_int (by omega), _, rfl⟩
theorem room_q {g : Nat} {W S a s p R : Int} {w : World} (hA : Acc w g W S a s p) (hI : Inv W S a s p) (hm : min (S - s) (W - a) = R) :
    Calls Try.prog 17 #[.pointer (some ⟨g, 0, none⟩)] w fun e w' => e = .returned (.int .i64 R) ∧ ∃ k, w' = w.drewN k := by
  rw [← hm]
  exact room_quiet g W S a s p w hA hI
theorem room_over {g : Nat} {W S a s p : Int} {w x : World} (hA : Acc (w.over x) g W S a s p) (hI : Inv W S a s p) :
    Calls Try.prog 17 #[.pointer (some ⟨g, 0, none⟩)] (w.over x) fun e w' => e = .returned (.int .i64 (min (S - s) (W - a))) ∧ Below (w.over x).heap.size (w.over x) w' :=
  (room_quiet g W S a s p _ hA hI).mono fun _ _ ⟨he, k, hk⟩ => ⟨he, by rw [hk]; exact (Below.refl _ _).drewN' k⟩
theorem Alone.lst {w w' : World} {g : Nat} {S : Nat → Prop} {size n : Nat} {A : Option Addr} {xs : List Value} (h : Alone w w' g) (hl : Lst w S size A n xs) (hs : ∀ b, S b → b ≠ g) : Lst w' S size A n xs :=
  hl.keep h.size fun b hb hS => h.2.2.2.2 b hb (hs b hS)
theorem small_add {ns : List Int} {n : Int} (h : Small ns) (h0 : 0 ≤ n) (h1 : n ≤ 16777216) : Small (ns ++ [n]) := by
  intro x hx
  rcases List.mem_append.1 hx with hx | hx
  · exact h x hx
  · simp at hx; subst hx; exact ⟨h0, h1⟩
/-- What is known at a round's head. -/
structure Head (w wr : World) (g h : Nat) (W S : Int) (k : Nat) (A1 A2 : Option Addr) (n1 c1 n2 c2 : Nat) (ns ms : List Int) (p : Int) : Prop where
  acc : Acc wr g W S (ns.sum - ms.sum) ns.sum p
  box : Whole wr w.heap.size 23 #[.int .i64 W, .int .i64 S]
  ref : Whole wr h 32 #[.slice A1 n1 c1, .slice A2 n2 c2, .int .i64 W, .int .i64 S]
  l1 : Lst wr (fun b => b ≠ g ∧ b ≠ h) 1 A1 n1 (ns.map (Value.int .i64))
  l2 : Lst wr (fun b => b ≠ g ∧ b ≠ h) 1 A2 n2 (ms.map (Value.int .i64))
  s1 : Small ns
  s2 : Small ms
  k1 : n1 ≤ k
  k2 : n2 ≤ k
  inv : Inv W S (ns.sum - ms.sum) ns.sum p
  ap : ns.sum - ms.sum ≤ p
  bel : Below w.heap.size w wr
  gt : w.heap.size < g
  ht : w.heap.size < h
  ne : g ≠ h
theorem four_puts {w : World} {h : Nat} {v0 v1 v2 v3 u0 u1 u2 u3 : Value} (hw : Whole w h 32 #[v0, v1, v2, v3]) :
    Whole ((((w.setCell ⟨h, 0, none⟩ u0).setCell ⟨h, 1, none⟩ u1).setCell ⟨h, 2, none⟩ u2).setCell ⟨h, 3, none⟩ u3) h 32 #[u0, u1, u2, u3] :=
  (((hw.put 0 u0 rfl).put 1 u1 rfl).put 2 u2 rfl).put 3 u3 rfl
theorem doneC_cases (a n : Int) : (doneC a n = 0 ∧ 0 ≤ n ∧ n ≤ a) ∨ doneC a n = 1 := by
  unfold doneC
  by_cases h : n < 0 ∨ a < n
  · rw [if_pos h]; exact Or.inr rfl
  · rw [if_neg h]; exact Or.inl ⟨rfl, by omega, by omega⟩
theorem head_done {w wr w4 w5 : World} {g h : Nat} {W S : Int} {k : Nat} {A1 A2 A2' : Option Addr} {n1 c1 n2 c2 n2' c2' : Nat} {ns ms : List Int} {p n : Int}
    (hH : Head w wr g h W S k A1 A2 n1 c1 n2 c2 ns ms p) (hA : Acc w4 g W S (doneA (ns.sum - ms.sum) n) ns.sum p) (hL : Alone wr w4 g) (hb : Below w4.drew.heap.size w4.drew w5)
    (hl : Lst w5 (fun b => (b ≠ g ∧ b ≠ h) ∨ w4.drew.heap.size ≤ b) 1 A2' n2' ((doneN (ns.sum - ms.sum) n ms).map (Value.int .i64))) :
    Hid (Head w ((((w5.setCell ⟨h, 0, none⟩ (.slice A1 n1 c1)).setCell ⟨h, 1, none⟩ (.slice A2' n2' c2')).setCell ⟨h, 2, none⟩ (.int .i64 W)).setCell ⟨h, 3, none⟩ (.int .i64 S)) g h W S (k + 1) A1 A2' n1 c1 n2' c2' ns (doneN (ns.sum - ms.sum) n ms) p) := by
  obtain ⟨acc, box, ref, l1, l2, s1, s2, k1, k2, inv, ap, bel, gt, ht, ne⟩ := hH
  have hgl : g < w4.heap.size := hA.lt
  have hhl : h < w4.heap.size := by have := ref.lt; have := hL.size; omega
  have hs : (doneN (ns.sum - ms.sum) n ms).sum = ms.sum + (ns.sum - ms.sum - doneA (ns.sum - ms.sum) n) := by
    unfold doneN doneA
    split
    · rw [List.sum_append]; simp; omega
    · omega
  have e1 : ns.sum - (doneN (ns.sum - ms.sum) n ms).sum = doneA (ns.sum - ms.sum) n := by omega
  have inv' := inv.done n
  have hle : doneA (ns.sum - ms.sum) n ≤ ns.sum - ms.sum := by
    unfold doneA
    rcases doneC_cases (ns.sum - ms.sum) n with ⟨hc, h0, h1⟩ | hc
    · rw [hc]; simp; omega
    · rw [hc]; simp
  have hlen : (doneN (ns.sum - ms.sum) n ms).length ≤ ms.length + 1 := by
    unfold doneN
    split <;> simp
  have hml : ms.length = n2 := by have := l2.len; simpa using this
  have hnl : (doneN (ns.sum - ms.sum) n ms).length = n2' := by have := hl.len; simpa using this
  have hp : ∀ b, (b ≠ g ∧ b ≠ h) → b ≠ h := fun b hb => hb.2
  refine ⟨?_, ?_, four_puts ((hL.whole ref ne.symm).drew.below' hb), ?_, ?_, s1, ?_, by omega, by omega, ?_, by omega, ?_, gt, ht, ne⟩
  · rw [e1]
    exact ((((hA.drew.below' hb).other ne _).other ne _).other ne _).other ne _
  · exact (((((hL.whole box (by omega)).drew.below' hb).other (by simp; omega) _).other (by simp; omega) _).other (by simp; omega) _).other (by simp; omega) _
  · exact (((((Alone.lst hL l1 fun b hb => hb.1).drew.below hb).put _ hp).put _ hp).put _ hp).put _ hp
  · refine ((((hl.mono (T := fun b => b ≠ g ∧ b ≠ h) ?_).put _ hp).put _ hp).put _ hp).put _ hp
    intro b hb
    rcases hb with hb | hb
    · exact hb
    · have hb' : w4.heap.size ≤ b := hb
      exact ⟨by omega, by omega⟩
  · unfold doneN
    split
    · rename_i hh
      have hh' : ¬ (n < 0 ∨ ns.sum - ms.sum < n) := by
        intro hc
        unfold doneC at hh
        rw [if_pos hc] at hh
        omega
      have := inv.w1
      have := inv.a1
      exact small_add s2 (by omega) (by omega)
    · exact s2
  · rw [e1]
    exact inv'
  · exact ((((hL.below bel (by omega) bel.size).drew.trans (hb.mono (by have := hL.size; have := bel.size; show _ ≤ w4.heap.size; omega))).setCell (by simp; omega) _ |>.setCell (by simp; omega) _).setCell (by simp; omega) _).setCell (by simp; omega) _
theorem head_done_p {w wr : World} {g h : Nat} {W S : Int} {k : Nat} {A1 A2 : Option Addr} {n1 c1 n2 c2 : Nat} {ns ms : List Int} {p : Int}
    (hH : Head w wr g h W S k A1 A2 n1 c1 n2 c2 ns ms p) (n : Int) : max p (ns.sum - (doneN (ns.sum - ms.sum) n ms).sum) = p := by
  have := hH.ap
  have h2 : ms.sum ≤ (doneN (ns.sum - ms.sum) n ms).sum := by
    unfold doneN
    rcases doneC_cases (ns.sum - ms.sum) n with ⟨hc, h0, h1⟩ | hc
    · rw [hc]; simp; omega
    · rw [hc]; simp
  omega
theorem head_add {w wr w4 w5 : World} {g h : Nat} {W S : Int} {k : Nat} {A1 A2 A1' : Option Addr} {n1 c1 n2 c2 n1' c1' : Nat} {ns ms : List Int} {p n : Int}
    (hH : Head w wr g h W S k A1 A2 n1 c1 n2 c2 ns ms p) (hA : Acc w4 g W S (addA W S (ns.sum - ms.sum) ns.sum n) (addS W S (ns.sum - ms.sum) ns.sum n) (addP W S (ns.sum - ms.sum) ns.sum p n)) (hL : Alone wr w4 g) (hb : Below w4.drew.heap.size w4.drew w5)
    (hl : Lst w5 (fun b => (b ≠ g ∧ b ≠ h) ∨ w4.drew.heap.size ≤ b) 1 A1' n1' ((addN W S (ns.sum - ms.sum) ns.sum n ns).map (Value.int .i64))) :
    Hid (Head w ((((w5.setCell ⟨h, 0, none⟩ (.slice A1' n1' c1')).setCell ⟨h, 1, none⟩ (.slice A2 n2 c2)).setCell ⟨h, 2, none⟩ (.int .i64 W)).setCell ⟨h, 3, none⟩ (.int .i64 S)) g h W S (k + 1) A1' A2 n1' c1' n2 c2 (addN W S (ns.sum - ms.sum) ns.sum n ns) ms (addP W S (ns.sum - ms.sum) ns.sum p n)) := by
  obtain ⟨acc, box, ref, l1, l2, s1, s2, k1, k2, inv, ap, bel, gt, ht, ne⟩ := hH
  have hgl : g < w4.heap.size := hA.lt
  have hhl : h < w4.heap.size := by have := ref.lt; have := hL.size; omega
  have hs : (addN W S (ns.sum - ms.sum) ns.sum n ns).sum = addS W S (ns.sum - ms.sum) ns.sum n := by
    unfold addN addS
    split
    · rw [List.sum_append]; simp
    · rfl
  have ha : addS W S (ns.sum - ms.sum) ns.sum n - ms.sum = addA W S (ns.sum - ms.sum) ns.sum n := by
    unfold addA addS
    split <;> omega
  have inv' := inv.add n
  have hap : addA W S (ns.sum - ms.sum) ns.sum n ≤ addP W S (ns.sum - ms.sum) ns.sum p n := by
    unfold addA addP
    split <;> omega
  have hlen : (addN W S (ns.sum - ms.sum) ns.sum n ns).length ≤ ns.length + 1 := by
    unfold addN
    split <;> simp
  have hml : ns.length = n1 := by have := l1.len; simpa using this
  have hnl : (addN W S (ns.sum - ms.sum) ns.sum n ns).length = n1' := by have := hl.len; simpa using this
  have hp : ∀ b, (b ≠ g ∧ b ≠ h) → b ≠ h := fun b hb => hb.2
  refine ⟨?_, ?_, four_puts ((hL.whole ref ne.symm).drew.below' hb), ?_, ?_, ?_, s2, by omega, by omega, ?_, ?_, ?_, gt, ht, ne⟩
  · rw [hs, ha]
    exact ((((hA.drew.below' hb).other ne _).other ne _).other ne _).other ne _
  · exact (((((hL.whole box (by omega)).drew.below' hb).other (by simp; omega) _).other (by simp; omega) _).other (by simp; omega) _).other (by simp; omega) _
  · refine ((((hl.mono (T := fun b => b ≠ g ∧ b ≠ h) ?_).put _ hp).put _ hp).put _ hp).put _ hp
    intro b hb
    rcases hb with hb | hb
    · exact hb
    · have hb' : w4.heap.size ≤ b := hb
      exact ⟨by omega, by omega⟩
  · exact (((((Alone.lst hL l2 fun b hb => hb.1).drew.below hb).put _ hp).put _ hp).put _ hp).put _ hp
  · unfold addN
    split
    · rename_i hh
      have hn : 0 ≤ n ∧ n ≤ S - ns.sum := by
        unfold addC at hh
        by_cases c1 : n < 0
        · rw [if_pos c1] at hh; omega
        · rw [if_neg c1] at hh
          by_cases c2 : S - ns.sum < n
          · rw [if_pos c2] at hh; omega
          · omega
      have := inv.s1
      have := inv.t0
      exact small_add s1 (by omega) (by omega)
    · exact s1
  · rw [hs, ha]
    exact inv'
  · rw [hs, ha]
    exact hap
  · exact ((((hL.below bel (by omega) bel.size).drew.trans (hb.mono (by have := hL.size; have := bel.size; show _ ≤ w4.heap.size; omega))).setCell (by simp; omega) _ |>.setCell (by simp; omega) _).setCell (by simp; omega) _).setCell (by simp; omega) _
theorem head_add_p {w wr : World} {g h : Nat} {W S : Int} {k : Nat} {A1 A2 : Option Addr} {n1 c1 n2 c2 : Nat} {ns ms : List Int} {p : Int}
    (hH : Head w wr g h W S k A1 A2 n1 c1 n2 c2 ns ms p) (n : Int) : addP W S (ns.sum - ms.sum) ns.sum p n = max p ((addN W S (ns.sum - ms.sum) ns.sum n ns).sum - ms.sum) := by
  have := hH.ap
  unfold addP addN
  split
  · rw [List.sum_append]; simp; omega
  · omega
theorem head_below {w wr w5 : World} {g h : Nat} {W S : Int} {k : Nat} {A1 A2 : Option Addr} {n1 c1 n2 c2 : Nat} {ns ms : List Int} {p : Int}
    (hH : Head w wr g h W S k A1 A2 n1 c1 n2 c2 ns ms p) (hb : Below wr.heap.size wr w5) : Head w w5 g h W S k A1 A2 n1 c1 n2 c2 ns ms p := by
  obtain ⟨acc, box, ref, l1, l2, s1, s2, k1, k2, inv, ap, bel, gt, ht, ne⟩ := hH
  exact ⟨Whole.below' acc hb, box.below' hb, ref.below' hb, l1.below hb, l2.below hb, s1, s2, k1, k2, inv, ap, bel.trans (hb.mono bel.size), gt, ht, ne⟩
set_option maxRecDepth 100000 in
set_option maxHeartbeats 2000000 in
theorem plays_long (W S : Int) (A : Option Addr) (len cap : Nat) (w : World) (hl : 60 < len) (hlen : len ≤ 9223372036854775807) :
    Calls Try.prog 3 #[.agg #[.int .i64 W, .int .i64 S], .slice A len cap] w fun e w' => e = .returned (.bool true) ∧ Below w.heap.size w w' := by
  go_enter Try.func3, Try.ntmps3
  go_wp2_with fail
  refine (awake_any _).mono ?_
  rintro e w1 ⟨rfl, hb1⟩
  have HB := Lib.hid (((Below.refl _ _).alloc (Nat.le_refl w.heap.size) _).trans (hb1.mono (by simp)))
  clear hb1
  go_wp2
  go_ret
  exact ⟨rfl, HB.out⟩
set_option maxRecDepth 100000 in
set_option maxHeartbeats 2000000 in
theorem plays_wrong (W S : Int) (A : Option Addr) (len cap : Nat) (w : World) (hl : len ≤ 60) (HR : Hid (rightQ W S = false)) :
    Calls Try.prog 3 #[.agg #[.int .i64 W, .int .i64 S], .slice A len cap] w fun e w' => e = .returned (.bool true) ∧ Below w.heap.size w w' := by
  have hq : W < 1 ∨ (1 ≤ W ∧ 16777216 < W) ∨ (1 ≤ W ∧ W ≤ 16777216 ∧ S < 0) ∨ (1 ≤ W ∧ W ≤ 16777216 ∧ 0 ≤ S ∧ 16777216 < S) := by
    have := HR.out
    simp [rightQ] at this
    omega
  have q0 : 16777216 < S → decide (S ≤ 16777216) = false := fun h => by simpa using h
  rcases hq with q1 | ⟨q1, q2⟩ | ⟨q1, q2, q3⟩ | ⟨q1, q2, q3, q4⟩
  all_goals (try have q5 := q0 q4)
  all_goals
    clear q0
    go_enter Try.func3, Try.ntmps3
    go_wp2_with fail
    refine (awake_any _).mono ?_
    rintro e w1 ⟨rfl, hb1⟩
    have k1 := fun o => (bcell hb1).1 w.heap.size o (by simp)
    have l1 : w.heap.size < w1.heap.size := by have := hb1.size; simp at this; omega
    have HB := Lib.hid (((Below.refl _ _).alloc (Nat.le_refl w.heap.size) _).trans (hb1.mono (by simp)))
    clear hb1
    go_wp2_with fail
    refine (new_wrong _ _ _ HR.out).mono ?_
    rintro e w2 ⟨rfl, hb2⟩
    have k2 := fun o => (bcell hb2).1 w.heap.size o l1
    have HB2 := Lib.hid (HB.out.trans (hb2.mono HB.out.size))
    clear hb2
    go_wp2_with fail
    refine (right_b _ HR.out).mono ?_
    rintro e w3 ⟨rfl, hb3⟩
    have HB3 := Lib.hid (HB2.out.trans (hb3.mono HB2.out.size))
    clear hb3
    go_wp2
    go_ret
    exact ⟨rfl, HB3.out⟩
set_option maxRecDepth 100000 in
set_option maxHeartbeats 4000000 in
theorem plays_right (W S : Int) (A : Option Addr) (len cap : Nat) (f h : Nat → Int) (w : World) (hp : Pairs w A len f h) (hl : len ≤ 60) (HR : Hid (rightQ W S = true)) :
    Calls Try.prog 3 #[.agg #[.int .i64 W, .int .i64 S], .slice A len cap] w fun e w' => e = .returned (.bool true) ∧ Below w.heap.size w w' := by
  have HP := Lib.hid hp
  clear hp
  have hI := Inv.new HR.out
  obtain ⟨i1, i2, i3, i4, _, _, _, _, _, _⟩ := hI
  go_enter Try.func3, Try.ntmps3
  go_wp2_with fail
  refine (awake_any _).mono ?_
  rintro e w1 ⟨rfl, hb1⟩
  have X1 := (Whole.new w 23 #[.int .i64 W, .int .i64 S] rfl).below' hb1
  have B1 := Lib.hid (((Below.refl _ _).alloc (Nat.le_refl w.heap.size) _).trans (hb1.mono (by simp)))
  have c1 := X1.cell
  clear hb1
  go_wp2_with fail
  refine (new_right _ _ _ HR.out).mono ?_
  rintro e w2 ⟨g, rfl, hg, hA2, hb2⟩
  have X2 := X1.below' hb2
  have B2 := Lib.hid (B1.out.trans (hb2.mono B1.out.size))
  have HA2 := Lib.hid hA2
  have HG : Hid (w.heap.size < g ∧ g < w2.heap.size) := ⟨by have := X1.lt; omega, hA2.lt⟩
  have c2 := X2.cell
  clear hb2 hA2 hg c1 X1
  go_wp2_with fail
  refine (right_b _ HR.out).mono ?_
  rintro e w3 ⟨rfl, hb3⟩
  have X3 := X2.below' hb3
  have B3 := Lib.hid (B2.out.trans (hb3.mono B2.out.size))
  have HA3 : Hid (Acc w3 g W S 0 0 0) := Whole.below' HA2.out hb3
  have HG3 : Hid (w.heap.size < g ∧ g < w3.heap.size) := ⟨HG.out.1, by have := HG.out.2; have := hb3.size; omega⟩
  have c3 := X3.cell
  clear hb3 HA2 c2 X2 HG B1 B2
  go_wp2
  have hH : Head w (w3.alloc (.cells #[.slice none 0 0, .slice none 0 0, .int .i64 W, .int .i64 S] 32)) g w3.heap.size W S 0 none none 0 0 0 0 [] [] 0 :=
    ⟨Whole.alloc HA3.out _, X3.alloc _, Whole.new _ _ _ rfl, Lst.empty _ _ _ _, Lst.empty _ _ _ _, fun x hx => by simp at hx, fun x hx => by simp at hx, Nat.le_refl _, Nat.le_refl _, Inv.new HR.out, by simp, B3.out.alloc B3.out.size _, HG3.out.1, X3.lt, by have := HG3.out.2; omega⟩
  have HH := Lib.hid hH
  clear hH HA3 X3 c3 B3 HG3
  go_loopw [9, 10] (fun pk i wr => ∃ (k : Nat) (A1 A2 : Option Addr) (n1 c1 n2 c2 : Nat) (ns ms : List Int) (p : Int), k ≤ len ∧ i = .int .i64 k ∧ pk = .int .i64 p ∧ Hid (Head w wr g w3.heap.size W S k A1 A2 n1 c1 n2 c2 ns ms p)) (fun _ i _ => len - (intOf i).toNat)
  case atStart => exact ⟨0, none, none, 0, 0, 0, 0, [], [], 0, Nat.zero_le _, rfl, rfl, HH⟩
  case round =>
    obtain ⟨k, A1, A2, n1, c1, n2, c2, ns, ms, p, hk, rfl, rfl, hH⟩ := hrel
    clear HH
    by_cases hlt : k < len
    · obtain ⟨b, off, rfl, hbl, hcells⟩ := HP.out (by omega)
      obtain ⟨hf, hh⟩ := hcells k hlt
      have cf := (hH.out.bel.cell (p := ⟨b, off + k * 2, none⟩) hbl).trans hf
      have ch := (hH.out.bel.cell (p := ⟨b, off + k * 2 + 1, none⟩) hbl).trans hh
      have hbr : b < wr.heap.size := by have := hH.out.bel.size; omega
      have HBL := Lib.hid hbl
      clear hf hh hcells hbl
      generalize h k = n at ch
      generalize f k = m at cf
      go_upto_if 77 with fail
      go_cut [11, 12] (fun s11 s12 wx => ∃ (code : Int) (A1' A2' : Option Addr) (n1' c1' n2' c2' : Nat) (ns' ms' : List Int) (p' : Int), s11 = .int .i64 code ∧ s12 = .int .i64 code ∧ Hid (Head w wx g w3.heap.size W S (k + 1) A1' A2' n1' c1' n2' c2' ns' ms' p') ∧ p' = max p (ns'.sum - ms'.sum))
      case first =>
        by_cases hz : m = 0
        · subst hz
          go_wp2_with fail
          refine (done_any g W S _ _ p n _ hH.out.acc hH.out.inv).mono ?_
          rintro e w4 ⟨rfl, hA4, hL4⟩
          have r4 := hL4.whole hH.out.ref hH.out.ne.symm
          have cr := r4.cell
          have ch4 := (hL4.cell (p := ⟨b, off + k * 2 + 1, none⟩) hbr (by have := hH.out.gt; have := HBL.out; simp; omega)).trans ch
          have L14 := Lib.hid (Alone.lst hL4 hH.out.l1 fun b hb => hb.1)
          have L24 := Lib.hid (Alone.lst hL4 hH.out.l2 fun b hb => hb.1)
          have R4 := Lib.hid r4
          have HA4 := Lib.hid hA4
          have HL4 := Lib.hid hL4
          clear r4 ch cf hA4 hL4
          go_wp2
          go_region_with (first | (go_at_call 9; refine (rless_any A1 A2 n1 c1 n2 c2 W S n ns ms _ _ L14.out.drew L24.out.drew hH.out.s1 (by have := hH.out.k1; omega) hH.out.s2 (by have := hH.out.k2; omega)).mono ?_; rintro e w5 ⟨A2', n2', c2', rfl, hb5, hl5⟩; have c5 := (R4.out.drew.below' hb5).cell; have f5 := (R4.out.drew.below' hb5).free; have HB5 := Lib.hid hb5; have HL5 := Lib.hid hl5; clear hb5 hl5))
          all_goals
            go_wp2_with fail
            go_meet
            exact ⟨_, A1, A2', n1, c1, n2', c2', ns, _, p, rfl, rfl, head_done hH.out HA4.out HL4.out HB5.out HL5.out, (head_done_p hH.out n).symm⟩
        · have hz' : (m == 0) = false := by simpa using hz
          clear hz
          go_wp2_with fail
          refine (add_any g W S _ _ p n _ hH.out.acc hH.out.inv).mono ?_
          rintro e w4 ⟨rfl, hA4, hL4⟩
          have r4 := hL4.whole hH.out.ref hH.out.ne.symm
          have cr := r4.cell
          have ch4 := (hL4.cell (p := ⟨b, off + k * 2 + 1, none⟩) hbr (by have := hH.out.gt; have := HBL.out; simp; omega)).trans ch
          have L14 := Lib.hid (Alone.lst hL4 hH.out.l1 fun b hb => hb.1)
          have L24 := Lib.hid (Alone.lst hL4 hH.out.l2 fun b hb => hb.1)
          have R4 := Lib.hid r4
          have HA4 := Lib.hid hA4
          have HL4 := Lib.hid hL4
          clear r4 ch cf hA4 hL4
          go_wp2
          go_region_with (first | (go_at_call 11; refine (radd_any A1 A2 n1 c1 n2 c2 W S n ns ms _ _ L14.out.drew L24.out.drew hH.out.s1 (by have := hH.out.k1; omega) hH.out.s2 (by have := hH.out.k2; omega) ⟨by omega, i2⟩ ⟨i3, i4⟩).mono ?_; rintro e w5 ⟨A1', n1', c1', rfl, hb5, hl5⟩; have c5 := (R4.out.drew.below' hb5).cell; have f5 := (R4.out.drew.below' hb5).free; have HB5 := Lib.hid hb5; have HL5 := Lib.hid hl5; clear hb5 hl5))
          all_goals
            go_wp2_with fail
            go_meet
            exact ⟨_, A1', A2, n1', c1', n2, c2, _, ms, _, rfl, rfl, head_add hH.out HA4.out HL4.out HB5.out HL5.out, head_add_p hH.out n⟩
      case rest =>
        obtain ⟨code, A1', A2', n1', c1', n2', c2', ns', ms', p', rfl, rfl, hH', hp'⟩ := hcut
        have HP' := Lib.hid hp'
        clear hH ch cf hbr HBL hp'
        go_wp2
        have cr := hH'.out.ref.cell
        have lr := hH'.out.ref.lt
        have q1 := hH'.out.k1
        have q2 := hH'.out.k2
        have sb1 := sum_bd ns' hH'.out.s1
        have sb2 := sum_bd ms' hH'.out.s2
        refine wp_region_over (by kernel_rfl) (by kernel_rfl) ?_
        repeat (go_big_quiet_step ((first | (go_at_call 12; exact Calls.over_of (waiting_any A1' A2' n1' c1' n2' c2' W S ns' ms' _ _ (hH'.out.l1.below (World.over_below _ _)) (hH'.out.l2.below (World.over_below _ _)) hH'.out.s1 (by omega) hH'.out.s2 (by omega))) | (go_at_call 13; exact Calls.over_of (size_any A1' A2' n1' c1' n2' c2' W S ns' _ _ (hH'.out.l1.below (World.over_below _ _)) hH'.out.s1 (by omega))))))
        refine wpQuiet_nil ?_
        intro w6 hb6
        have hH6 := Lib.hid (head_below hH'.out hb6)
        clear hb6 hH' cr lr sb1 sb2
        have inv := hH6.out.inv
        obtain ⟨j1, j2, j3, j4, j5, j6, j7, j8, j9, j10⟩ := inv
        have acc := Lib.hid hH6.out.acc
        have hap := hH6.out.ap
        have INV := Lib.hid hH6.out.inv
        have cb := hH6.out.box.cell
        obtain ⟨X, hX⟩ : ∃ X, ns'.sum - ms'.sum = X := ⟨_, rfl⟩
        obtain ⟨Y, hY⟩ : ∃ Y, ns'.sum = Y := ⟨_, rfl⟩
        rw [hX] at acc INV HP' hap j5 j6
        rw [hY] at acc INV j7 j8
        simp only [hX]
        simp only [hY]
        clear hX hY
        have dw : decide (W < X) = false := by simpa using j6
        have ds : decide (S < Y) = false := by simpa using j8
        have hpx : (X ≤ p ∧ p' = p) ∨ (p < X ∧ p' = X) := by have := HP'.out; omega
        have hro : (S - Y < W - X ∧ min (S - Y) (W - X) = S - Y) ∨ (W - X < S - Y ∧ min (S - Y) (W - X) = W - X) ∨ (S - Y = W - X ∧ min (S - Y) (W - X) = W - X) := by omega
        clear HP'
        rcases hpx with ⟨hx, rfl⟩ | ⟨hx, rfl⟩ <;> rcases hro with ⟨hro, hmin⟩ | ⟨hro, hmin⟩ | ⟨hro, hmin⟩
        all_goals
          have HM := Lib.hid hmin
          clear hmin
          go_wp2
          go_quiet ((first | (go_at_call 14; exact Calls.quiet_eq (waits_any g W S _ _ _ _ (acc.out.drewN _))) | (go_at_call 15; exact Calls.quiet_eq (sizes_any g W S _ _ _ _ (acc.out.drewN _))) | (go_at_call 16; exact Calls.quiet_eq (peaks_any g W S _ _ _ _ (acc.out.drewN _))) | (go_at_call 17; exact Calls.quiet_of (room_q (acc.out.drewN _) INV.out HM.out))))
          go_wp2
          go_roundw
          case rel => exact ⟨k + 1, A1', A2', n1', c1', n2', c2', ns', ms', _, by omega, by go_num, rfl, Lib.hid (head_below hH6.out ((Below.refl _ _).drewN' _))⟩
          case measure => simp [intOf]; omega
    · go_wp2
      go_ret
      exact ⟨rfl, hH.out.bel⟩
theorem plays_any (W S : Int) (A : Option Addr) (len cap : Nat) (f h : Nat → Int) (w : World) (hp : Pairs w A len f h) (hlen : len ≤ 9223372036854775807) :
    Calls Try.prog 3 #[.agg #[.int .i64 W, .int .i64 S], .slice A len cap] w fun e w' => e = .returned (.bool true) ∧ Below w.heap.size w w' := by
  by_cases hl : 60 < len
  · exact plays_long W S A len cap w hl hlen
  cases hr : rightQ W S
  · exact plays_wrong W S A len cap w (by omega) hr
  · exact plays_right W S A len cap f h w hp (by omega) hr
end Go.Proofs.Ytfbjcdjjjggheaa
