/- What time follows: the program. -/
import Derived.Test.YtfjbjfebopabaaaM1
namespace Go.Proofs.Ytfjbjfebopabaaa
open Go.RowKit

theorem carry_no (b i j : Nat) (x e f : Int) (w : World) (hx : w.cell? ⟨b, i, none⟩ = some (.int .i64 x)) (hne : (x == e) = false) :
    Calls Try.prog 19 #[.pointer (some ⟨b, i, none⟩), .int .i64 e, .int .i64 f, .pointer (some ⟨b, j, none⟩)] w fun r w' => r = .returned (.tuple #[]) ∧ w = w' := by
  go_enter Try.func19, Try.ntmps19
  go_wp2
  go_end0
  exact ⟨rfl, rfl⟩
theorem carry_yes (b i j : Nat) (e f g : Int) (w : World) (hx : w.cell? ⟨b, i, none⟩ = some (.int .i64 e)) (hy : w.cell? ⟨b, j, none⟩ = some (.int .i64 g)) (hij : i ≠ j) (g0 : 0 ≤ g) (g1 : g < 10000)
    (h1 : w.frozen? ⟨b, i, none⟩ = false) (h2 : w.frozen? ⟨b, j, none⟩ = false) :
    Calls Try.prog 19 #[.pointer (some ⟨b, i, none⟩), .int .i64 e, .int .i64 f, .pointer (some ⟨b, j, none⟩)] w fun r w' => r = .returned (.tuple #[]) ∧ w' = (w.setCell ⟨b, i, none⟩ (.int .i64 f)).setCell ⟨b, j, none⟩ (.int .i64 (g + 1)) := by
  have hji : j ≠ i := Ne.symm hij
  go_enter Try.func19, Try.ntmps19
  go_wp2
  go_end0
  exact ⟨rfl, rfl⟩
def tmv (r : Bool) (y mo d h mi s : Int) : Value := if r then tm y mo d h mi s else tm 0 0 0 0 0 0
theorem next_wrong (y mo d h mi s : Int) (w : World) (hb : rightB y mo d h mi s = false) :
    Calls Try.prog 13 #[tm y mo d h mi s] w fun e w' => e = .returned (.tuple #[tm 0 0 0 0 0 0, .int .i64 34]) ∧ Below w.heap.size w w' := by
  have HR := Lib.hid hb
  clear hb
  go_enter Try.func13, Try.ntmps13
  go_wp2_with fail
  refine (right_b _ HR.out).mono ?_
  rintro e w1 ⟨rfl, hb1⟩
  have X := Lib.hid ((Whole.new (w.alloc (.cells #[.int .i64 y, .int .i64 mo, .int .i64 d, .int .i64 h, .int .i64 mi, .int .i64 s] 23)) 23 #[.int .i64 0, .int .i64 0, .int .i64 0, .int .i64 0, .int .i64 0, .int .i64 0] rfl).below' hb1)
  have HB := Lib.hid ((((Below.refl _ _).alloc (Nat.le_refl _) _).alloc (by simp) _).trans (hb1.mono (by simp; omega)))
  clear hb1
  have c := X.out.cell
  have fz := X.out.free
  have l := X.out.lt
  simp only [World.size_alloc] at c fz l
  go_wp2
  refine bodyPost_ret (v := .tuple #[tm 0 0 0 0 0 0, .int .i64 34]) (by simp [results, Try.results13, go_sem, c]) rfl ⟨rfl, ?_⟩
  iterate 6 refine Below.setCell ?_ (by simp) _
  exact HB.out
theorem carry_no' (b i j : Nat) (x e f : Int) (cs : Array Value) (w : World) (hw : Whole w b 23 cs) (hx : cs[i]? = some (.int .i64 x)) (hne : (x == e) = false) :
    Calls Try.prog 19 #[.pointer (some ⟨b, i, none⟩), .int .i64 e, .int .i64 f, .pointer (some ⟨b, j, none⟩)] w fun r w' => r = .returned (.tuple #[]) ∧ Whole w' b 23 cs ∧ Alone w w' b := by
  refine (carry_no b i j x e f w ((hw.cell i).trans hx) hne).mono ?_
  rintro r w' ⟨rfl, rfl⟩
  exact ⟨rfl, hw, Alone.refl _ _⟩
theorem carry_yes' (b i j : Nat) (e f g : Int) (cs cs' : Array Value) (w : World) (hw : Whole w b 23 cs) (hx : cs[i]? = some (.int .i64 e)) (hy : cs[j]? = some (.int .i64 g)) (hij : i ≠ j) (g0 : 0 ≤ g) (g1 : g < 10000)
    (hcs : (cs.setIfInBounds i (.int .i64 f)).setIfInBounds j (.int .i64 (g + 1)) = cs') :
    Calls Try.prog 19 #[.pointer (some ⟨b, i, none⟩), .int .i64 e, .int .i64 f, .pointer (some ⟨b, j, none⟩)] w fun r w' => r = .returned (.tuple #[]) ∧ Whole w' b 23 cs' ∧ Alone w w' b := by
  refine (carry_yes b i j e f g w ((hw.cell i).trans hx) ((hw.cell j).trans hy) hij g0 g1 (hw.free i) (hw.free j)).mono ?_
  rintro r w' ⟨rfl, rfl⟩
  exact ⟨rfl, (hw.put i _ rfl).put j _ hcs, ((Alone.refl w b).put i _).put j _⟩
set_option maxHeartbeats 2000000 in
theorem next_sec (y mo d h mi s : Int) (w : World) (hb : rightB (y) (mo) (d) (h) (mi) (s) = true) (hq : rightB (y) (mo) (d) (h) (mi) (s + 2) = true) (hs : s < 58) : Calls Try.prog 13 #[tm (y) (mo) (d) (h) (mi) (s)] w fun e w' => e = .returned (.tuple #[tm (y) (mo) (d) (h) (mi) (s + 2), .int .i64 0]) ∧ Below w.heap.size w w' := by
  have hr := RightT.of hb
  obtain ⟨a1, a2, a3, a4, a5, a6, a7, a8, a9, a10, a11, a12, a13⟩ := hr
  have hd := right_days hb
  have dl := days_le (y) (mo)
  have HR := Lib.hid hb
  have HQ := Lib.hid hq
  clear hb hq
  go_enter Try.func13, Try.ntmps13
  go_wp2_with fail
  refine (right_b _ HR.out).mono ?_
  rintro e w1 ⟨rfl, hb1⟩
  have T0 := Lib.hid (((Whole.new w 23 #[.int .i64 (y), .int .i64 (mo), .int .i64 (d), .int .i64 (h), .int .i64 (mi), .int .i64 (s)] rfl).alloc (.cells #[.int .i64 (0), .int .i64 (0), .int .i64 (0), .int .i64 (0), .int .i64 (0), .int .i64 (0)] 23)).below' hb1)
  have X := Lib.hid ((Whole.new (w.alloc (.cells #[.int .i64 (y), .int .i64 (mo), .int .i64 (d), .int .i64 (h), .int .i64 (mi), .int .i64 (s)] 23)) 23 #[.int .i64 (0), .int .i64 (0), .int .i64 (0), .int .i64 (0), .int .i64 (0), .int .i64 (0)] rfl).below' hb1)
  have HB0 := Lib.hid ((((Below.refl _ _).alloc (Nat.le_refl _) _).alloc (by simp) _).trans (hb1.mono (by simp; omega)))
  clear hb1 HR
  have X0 : Hid (Whole w1 (w.heap.size + 1) 23 #[.int .i64 (0), .int .i64 (0), .int .i64 (0), .int .i64 (0), .int .i64 (0), .int .i64 (0)]) := by
    have h := X.out
    rw [World.size_alloc] at h
    exact Lib.hid h
  clear X
  obtain ⟨N, hN⟩ : ∃ N, w.heap.size = N := ⟨_, rfl⟩
  rw [hN] at T0 HB0 X0
  have HN := Lib.hid hN
  rw [hN]
  clear hN
  have l := X0.out.lt
  have c := T0.out.cell
  have f := T0.out.free
  go_wp2_with fail
  clear c f
  have T1 := Lib.hid (T0.out.put 5 (.int .i64 (s + 2)) (cs' := #[.int .i64 (y), .int .i64 (mo), .int .i64 (d), .int .i64 (h), .int .i64 (mi), .int .i64 (s + 2)]) rfl)
  have X1 := Lib.hid (X0.out.other (p := ⟨N, 5, none⟩) (by simp) (.int .i64 (s + 2)))
  have HB1 := Lib.hid (HB0.out.setCell (p := ⟨N, 5, none⟩) (by exact Nat.le_refl _) (.int .i64 (s + 2)))
  clear T0 X0 HB0
  go_wp2_with fail
  refine (carry_no' N 5 4 _ _ _ _ _ T1.out rfl (by simp; omega)).mono ?_
  rintro e w2 ⟨rfl, t2, al⟩
  have T2 := Lib.hid t2
  have X2 := Lib.hid (al.whole X1.out (by omega))
  have HB2 := Lib.hid (al.below HB1.out (by omega) (Nat.le_of_lt T1.out.lt))
  clear t2 al T1 X1 HB1
  go_wp2_with fail
  refine (carry_no' N 4 3 _ _ _ _ _ T2.out rfl (by simp; omega)).mono ?_
  rintro e w3 ⟨rfl, t3, al⟩
  have T3 := Lib.hid t3
  have X3 := Lib.hid (al.whole X2.out (by omega))
  have HB3 := Lib.hid (al.below HB2.out (by omega) (Nat.le_of_lt T2.out.lt))
  clear t3 al T2 X2 HB2
  go_wp2_with fail
  refine (carry_no' N 3 2 _ _ _ _ _ T3.out rfl (by simp; omega)).mono ?_
  rintro e w4 ⟨rfl, t4, al⟩
  have T4 := Lib.hid t4
  have X4 := Lib.hid (al.whole X3.out (by omega))
  have HB4 := Lib.hid (al.below HB3.out (by omega) (Nat.le_of_lt T3.out.lt))
  clear t4 al T3 X3 HB3
  have c := T4.out.cell
  go_wp2_with fail
  clear c
  refine (days_any _ _ _).mono ?_
  rintro e w' ⟨rfl, rfl⟩
  go_wp2_with fail
  refine (carry_no' N 2 1 _ _ _ _ _ T4.out rfl (by simp; omega)).mono ?_
  rintro e w5 ⟨rfl, t5, al⟩
  have T5 := Lib.hid t5
  have X5 := Lib.hid (al.whole X4.out (by omega))
  have HB5 := Lib.hid (al.below HB4.out (by omega) (Nat.le_of_lt T4.out.lt))
  clear t5 al T4 X4 HB4
  go_wp2_with fail
  refine (carry_no' N 1 0 _ _ _ _ _ T5.out rfl (by simp; omega)).mono ?_
  rintro e w6 ⟨rfl, t6, al⟩
  have T6 := Lib.hid t6
  have X6 := Lib.hid (al.whole X5.out (by omega))
  have HB6 := Lib.hid (al.below HB5.out (by omega) (Nat.le_of_lt T5.out.lt))
  clear t6 al T5 X5 HB5
  have c := T6.out.cell
  go_wp2_with fail
  clear c
  refine (right_b (r := true) _ HQ.out).mono ?_
  rintro e w7 ⟨rfl, hb⟩
  have X7 := Lib.hid (X6.out.below' hb)
  have T7 := Lib.hid (T6.out.below' hb)
  have HB7 := Lib.hid (HB6.out.trans (hb.mono (Nat.le_of_lt T6.out.lt)))
  clear hb T6 X6 HB6
  have c := T7.out.cell
  have cx := X7.out.cell
  have fx := X7.out.free
  have l := X7.out.lt
  go_wp2
  refine bodyPost_ret (v := .tuple #[tm (y) (mo) (d) (h) (mi) (s + 2), .int .i64 0]) (by simp [results, Try.results13, go_sem, cx]) rfl ⟨rfl, ?_⟩
  rw [HN.out]
  iterate 6 refine Below.setCell ?_ (Nat.le_succ N) _
  exact HB7.out
set_option maxHeartbeats 2000000 in
theorem next_minute (y mo d h mi : Int) (w : World) (hb : rightB (y) (mo) (d) (h) (mi) (58) = true) (hq : rightB (y) (mo) (d) (h) (mi + 1) (0) = true) (hs : mi < 59) : Calls Try.prog 13 #[tm (y) (mo) (d) (h) (mi) (58)] w fun e w' => e = .returned (.tuple #[tm (y) (mo) (d) (h) (mi + 1) (0), .int .i64 0]) ∧ Below w.heap.size w w' := by
  have hr := RightT.of hb
  obtain ⟨a1, a2, a3, a4, a5, a6, a7, a8, a9, a10, a11, a12, a13⟩ := hr
  have hd := right_days hb
  have dl := days_le (y) (mo)
  have HR := Lib.hid hb
  have HQ := Lib.hid hq
  clear hb hq
  go_enter Try.func13, Try.ntmps13
  go_wp2_with fail
  refine (right_b _ HR.out).mono ?_
  rintro e w1 ⟨rfl, hb1⟩
  have T0 := Lib.hid (((Whole.new w 23 #[.int .i64 (y), .int .i64 (mo), .int .i64 (d), .int .i64 (h), .int .i64 (mi), .int .i64 (58)] rfl).alloc (.cells #[.int .i64 (0), .int .i64 (0), .int .i64 (0), .int .i64 (0), .int .i64 (0), .int .i64 (0)] 23)).below' hb1)
  have X := Lib.hid ((Whole.new (w.alloc (.cells #[.int .i64 (y), .int .i64 (mo), .int .i64 (d), .int .i64 (h), .int .i64 (mi), .int .i64 (58)] 23)) 23 #[.int .i64 (0), .int .i64 (0), .int .i64 (0), .int .i64 (0), .int .i64 (0), .int .i64 (0)] rfl).below' hb1)
  have HB0 := Lib.hid ((((Below.refl _ _).alloc (Nat.le_refl _) _).alloc (by simp) _).trans (hb1.mono (by simp; omega)))
  clear hb1 HR
  have X0 : Hid (Whole w1 (w.heap.size + 1) 23 #[.int .i64 (0), .int .i64 (0), .int .i64 (0), .int .i64 (0), .int .i64 (0), .int .i64 (0)]) := by
    have h := X.out
    rw [World.size_alloc] at h
    exact Lib.hid h
  clear X
  obtain ⟨N, hN⟩ : ∃ N, w.heap.size = N := ⟨_, rfl⟩
  rw [hN] at T0 HB0 X0
  have HN := Lib.hid hN
  rw [hN]
  clear hN
  have l := X0.out.lt
  have c := T0.out.cell
  have f := T0.out.free
  go_wp2_with fail
  clear c f
  have T1 := Lib.hid (T0.out.put 5 (.int .i64 (60)) (cs' := #[.int .i64 (y), .int .i64 (mo), .int .i64 (d), .int .i64 (h), .int .i64 (mi), .int .i64 (60)]) rfl)
  have X1 := Lib.hid (X0.out.other (p := ⟨N, 5, none⟩) (by simp) (.int .i64 (60)))
  have HB1 := Lib.hid (HB0.out.setCell (p := ⟨N, 5, none⟩) (by exact Nat.le_refl _) (.int .i64 (60)))
  clear T0 X0 HB0
  go_wp2_with fail
  refine (carry_yes' N 5 4 _ _ _ _ #[.int .i64 (y), .int .i64 (mo), .int .i64 (d), .int .i64 (h), .int .i64 (mi + 1), .int .i64 (0)] _ T1.out rfl rfl (by decide) (by omega) (by omega) rfl).mono ?_
  rintro e w2 ⟨rfl, t2, al⟩
  have T2 := Lib.hid t2
  have X2 := Lib.hid (al.whole X1.out (by omega))
  have HB2 := Lib.hid (al.below HB1.out (by omega) (Nat.le_of_lt T1.out.lt))
  clear t2 al T1 X1 HB1
  go_wp2_with fail
  refine (carry_no' N 4 3 _ _ _ _ _ T2.out rfl (by simp; omega)).mono ?_
  rintro e w3 ⟨rfl, t3, al⟩
  have T3 := Lib.hid t3
  have X3 := Lib.hid (al.whole X2.out (by omega))
  have HB3 := Lib.hid (al.below HB2.out (by omega) (Nat.le_of_lt T2.out.lt))
  clear t3 al T2 X2 HB2
  go_wp2_with fail
  refine (carry_no' N 3 2 _ _ _ _ _ T3.out rfl (by simp; omega)).mono ?_
  rintro e w4 ⟨rfl, t4, al⟩
  have T4 := Lib.hid t4
  have X4 := Lib.hid (al.whole X3.out (by omega))
  have HB4 := Lib.hid (al.below HB3.out (by omega) (Nat.le_of_lt T3.out.lt))
  clear t4 al T3 X3 HB3
  have c := T4.out.cell
  go_wp2_with fail
  clear c
  refine (days_any _ _ _).mono ?_
  rintro e w' ⟨rfl, rfl⟩
  go_wp2_with fail
  refine (carry_no' N 2 1 _ _ _ _ _ T4.out rfl (by simp; omega)).mono ?_
  rintro e w5 ⟨rfl, t5, al⟩
  have T5 := Lib.hid t5
  have X5 := Lib.hid (al.whole X4.out (by omega))
  have HB5 := Lib.hid (al.below HB4.out (by omega) (Nat.le_of_lt T4.out.lt))
  clear t5 al T4 X4 HB4
  go_wp2_with fail
  refine (carry_no' N 1 0 _ _ _ _ _ T5.out rfl (by simp; omega)).mono ?_
  rintro e w6 ⟨rfl, t6, al⟩
  have T6 := Lib.hid t6
  have X6 := Lib.hid (al.whole X5.out (by omega))
  have HB6 := Lib.hid (al.below HB5.out (by omega) (Nat.le_of_lt T5.out.lt))
  clear t6 al T5 X5 HB5
  have c := T6.out.cell
  go_wp2_with fail
  clear c
  refine (right_b (r := true) _ HQ.out).mono ?_
  rintro e w7 ⟨rfl, hb⟩
  have X7 := Lib.hid (X6.out.below' hb)
  have T7 := Lib.hid (T6.out.below' hb)
  have HB7 := Lib.hid (HB6.out.trans (hb.mono (Nat.le_of_lt T6.out.lt)))
  clear hb T6 X6 HB6
  have c := T7.out.cell
  have cx := X7.out.cell
  have fx := X7.out.free
  have l := X7.out.lt
  go_wp2
  refine bodyPost_ret (v := .tuple #[tm (y) (mo) (d) (h) (mi + 1) (0), .int .i64 0]) (by simp [results, Try.results13, go_sem, cx]) rfl ⟨rfl, ?_⟩
  rw [HN.out]
  iterate 6 refine Below.setCell ?_ (Nat.le_succ N) _
  exact HB7.out
set_option maxHeartbeats 2000000 in
theorem next_hour (y mo d h : Int) (w : World) (hb : rightB (y) (mo) (d) (h) (59) (58) = true) (hq : rightB (y) (mo) (d) (h + 1) (0) (0) = true) (hs : h < 23) : Calls Try.prog 13 #[tm (y) (mo) (d) (h) (59) (58)] w fun e w' => e = .returned (.tuple #[tm (y) (mo) (d) (h + 1) (0) (0), .int .i64 0]) ∧ Below w.heap.size w w' := by
  have hr := RightT.of hb
  obtain ⟨a1, a2, a3, a4, a5, a6, a7, a8, a9, a10, a11, a12, a13⟩ := hr
  have hd := right_days hb
  have dl := days_le (y) (mo)
  have HR := Lib.hid hb
  have HQ := Lib.hid hq
  clear hb hq
  go_enter Try.func13, Try.ntmps13
  go_wp2_with fail
  refine (right_b _ HR.out).mono ?_
  rintro e w1 ⟨rfl, hb1⟩
  have T0 := Lib.hid (((Whole.new w 23 #[.int .i64 (y), .int .i64 (mo), .int .i64 (d), .int .i64 (h), .int .i64 (59), .int .i64 (58)] rfl).alloc (.cells #[.int .i64 (0), .int .i64 (0), .int .i64 (0), .int .i64 (0), .int .i64 (0), .int .i64 (0)] 23)).below' hb1)
  have X := Lib.hid ((Whole.new (w.alloc (.cells #[.int .i64 (y), .int .i64 (mo), .int .i64 (d), .int .i64 (h), .int .i64 (59), .int .i64 (58)] 23)) 23 #[.int .i64 (0), .int .i64 (0), .int .i64 (0), .int .i64 (0), .int .i64 (0), .int .i64 (0)] rfl).below' hb1)
  have HB0 := Lib.hid ((((Below.refl _ _).alloc (Nat.le_refl _) _).alloc (by simp) _).trans (hb1.mono (by simp; omega)))
  clear hb1 HR
  have X0 : Hid (Whole w1 (w.heap.size + 1) 23 #[.int .i64 (0), .int .i64 (0), .int .i64 (0), .int .i64 (0), .int .i64 (0), .int .i64 (0)]) := by
    have h := X.out
    rw [World.size_alloc] at h
    exact Lib.hid h
  clear X
  obtain ⟨N, hN⟩ : ∃ N, w.heap.size = N := ⟨_, rfl⟩
  rw [hN] at T0 HB0 X0
  have HN := Lib.hid hN
  rw [hN]
  clear hN
  have l := X0.out.lt
  have c := T0.out.cell
  have f := T0.out.free
  go_wp2_with fail
  clear c f
  have T1 := Lib.hid (T0.out.put 5 (.int .i64 (60)) (cs' := #[.int .i64 (y), .int .i64 (mo), .int .i64 (d), .int .i64 (h), .int .i64 (59), .int .i64 (60)]) rfl)
  have X1 := Lib.hid (X0.out.other (p := ⟨N, 5, none⟩) (by simp) (.int .i64 (60)))
  have HB1 := Lib.hid (HB0.out.setCell (p := ⟨N, 5, none⟩) (by exact Nat.le_refl _) (.int .i64 (60)))
  clear T0 X0 HB0
  go_wp2_with fail
  refine (carry_yes' N 5 4 _ _ _ _ #[.int .i64 (y), .int .i64 (mo), .int .i64 (d), .int .i64 (h), .int .i64 (59 + 1), .int .i64 (0)] _ T1.out rfl rfl (by decide) (by omega) (by omega) rfl).mono ?_
  rintro e w2 ⟨rfl, t2, al⟩
  have T2 := Lib.hid t2
  have X2 := Lib.hid (al.whole X1.out (by omega))
  have HB2 := Lib.hid (al.below HB1.out (by omega) (Nat.le_of_lt T1.out.lt))
  clear t2 al T1 X1 HB1
  go_wp2_with fail
  refine (carry_yes' N 4 3 _ _ _ _ #[.int .i64 (y), .int .i64 (mo), .int .i64 (d), .int .i64 (h + 1), .int .i64 (0), .int .i64 (0)] _ T2.out rfl rfl (by decide) (by omega) (by omega) rfl).mono ?_
  rintro e w3 ⟨rfl, t3, al⟩
  have T3 := Lib.hid t3
  have X3 := Lib.hid (al.whole X2.out (by omega))
  have HB3 := Lib.hid (al.below HB2.out (by omega) (Nat.le_of_lt T2.out.lt))
  clear t3 al T2 X2 HB2
  go_wp2_with fail
  refine (carry_no' N 3 2 _ _ _ _ _ T3.out rfl (by simp; omega)).mono ?_
  rintro e w4 ⟨rfl, t4, al⟩
  have T4 := Lib.hid t4
  have X4 := Lib.hid (al.whole X3.out (by omega))
  have HB4 := Lib.hid (al.below HB3.out (by omega) (Nat.le_of_lt T3.out.lt))
  clear t4 al T3 X3 HB3
  have c := T4.out.cell
  go_wp2_with fail
  clear c
  refine (days_any _ _ _).mono ?_
  rintro e w' ⟨rfl, rfl⟩
  go_wp2_with fail
  refine (carry_no' N 2 1 _ _ _ _ _ T4.out rfl (by simp; omega)).mono ?_
  rintro e w5 ⟨rfl, t5, al⟩
  have T5 := Lib.hid t5
  have X5 := Lib.hid (al.whole X4.out (by omega))
  have HB5 := Lib.hid (al.below HB4.out (by omega) (Nat.le_of_lt T4.out.lt))
  clear t5 al T4 X4 HB4
  go_wp2_with fail
  refine (carry_no' N 1 0 _ _ _ _ _ T5.out rfl (by simp; omega)).mono ?_
  rintro e w6 ⟨rfl, t6, al⟩
  have T6 := Lib.hid t6
  have X6 := Lib.hid (al.whole X5.out (by omega))
  have HB6 := Lib.hid (al.below HB5.out (by omega) (Nat.le_of_lt T5.out.lt))
  clear t6 al T5 X5 HB5
  have c := T6.out.cell
  go_wp2_with fail
  clear c
  refine (right_b (r := true) _ HQ.out).mono ?_
  rintro e w7 ⟨rfl, hb⟩
  have X7 := Lib.hid (X6.out.below' hb)
  have T7 := Lib.hid (T6.out.below' hb)
  have HB7 := Lib.hid (HB6.out.trans (hb.mono (Nat.le_of_lt T6.out.lt)))
  clear hb T6 X6 HB6
  have c := T7.out.cell
  have cx := X7.out.cell
  have fx := X7.out.free
  have l := X7.out.lt
  go_wp2
  refine bodyPost_ret (v := .tuple #[tm (y) (mo) (d) (h + 1) (0) (0), .int .i64 0]) (by simp [results, Try.results13, go_sem, cx]) rfl ⟨rfl, ?_⟩
  rw [HN.out]
  iterate 6 refine Below.setCell ?_ (Nat.le_succ N) _
  exact HB7.out
set_option maxHeartbeats 2000000 in
theorem next_day (y mo d : Int) (w : World) (hb : rightB (y) (mo) (d) (23) (59) (58) = true) (hq : rightB (y) (mo) (d + 1) (0) (0) (0) = true) (hs : d < daysI y mo) : Calls Try.prog 13 #[tm (y) (mo) (d) (23) (59) (58)] w fun e w' => e = .returned (.tuple #[tm (y) (mo) (d + 1) (0) (0) (0), .int .i64 0]) ∧ Below w.heap.size w w' := by
  have hr := RightT.of hb
  obtain ⟨a1, a2, a3, a4, a5, a6, a7, a8, a9, a10, a11, a12, a13⟩ := hr
  have hd := right_days hb
  have dl := days_le (y) (mo)
  have HR := Lib.hid hb
  have HQ := Lib.hid hq
  clear hb hq
  go_enter Try.func13, Try.ntmps13
  go_wp2_with fail
  refine (right_b _ HR.out).mono ?_
  rintro e w1 ⟨rfl, hb1⟩
  have T0 := Lib.hid (((Whole.new w 23 #[.int .i64 (y), .int .i64 (mo), .int .i64 (d), .int .i64 (23), .int .i64 (59), .int .i64 (58)] rfl).alloc (.cells #[.int .i64 (0), .int .i64 (0), .int .i64 (0), .int .i64 (0), .int .i64 (0), .int .i64 (0)] 23)).below' hb1)
  have X := Lib.hid ((Whole.new (w.alloc (.cells #[.int .i64 (y), .int .i64 (mo), .int .i64 (d), .int .i64 (23), .int .i64 (59), .int .i64 (58)] 23)) 23 #[.int .i64 (0), .int .i64 (0), .int .i64 (0), .int .i64 (0), .int .i64 (0), .int .i64 (0)] rfl).below' hb1)
  have HB0 := Lib.hid ((((Below.refl _ _).alloc (Nat.le_refl _) _).alloc (by simp) _).trans (hb1.mono (by simp; omega)))
  clear hb1 HR
  have X0 : Hid (Whole w1 (w.heap.size + 1) 23 #[.int .i64 (0), .int .i64 (0), .int .i64 (0), .int .i64 (0), .int .i64 (0), .int .i64 (0)]) := by
    have h := X.out
    rw [World.size_alloc] at h
    exact Lib.hid h
  clear X
  obtain ⟨N, hN⟩ : ∃ N, w.heap.size = N := ⟨_, rfl⟩
  rw [hN] at T0 HB0 X0
  have HN := Lib.hid hN
  rw [hN]
  clear hN
  have l := X0.out.lt
  have c := T0.out.cell
  have f := T0.out.free
  go_wp2_with fail
  clear c f
  have T1 := Lib.hid (T0.out.put 5 (.int .i64 (60)) (cs' := #[.int .i64 (y), .int .i64 (mo), .int .i64 (d), .int .i64 (23), .int .i64 (59), .int .i64 (60)]) rfl)
  have X1 := Lib.hid (X0.out.other (p := ⟨N, 5, none⟩) (by simp) (.int .i64 (60)))
  have HB1 := Lib.hid (HB0.out.setCell (p := ⟨N, 5, none⟩) (by exact Nat.le_refl _) (.int .i64 (60)))
  clear T0 X0 HB0
  go_wp2_with fail
  refine (carry_yes' N 5 4 _ _ _ _ #[.int .i64 (y), .int .i64 (mo), .int .i64 (d), .int .i64 (23), .int .i64 (59 + 1), .int .i64 (0)] _ T1.out rfl rfl (by decide) (by omega) (by omega) rfl).mono ?_
  rintro e w2 ⟨rfl, t2, al⟩
  have T2 := Lib.hid t2
  have X2 := Lib.hid (al.whole X1.out (by omega))
  have HB2 := Lib.hid (al.below HB1.out (by omega) (Nat.le_of_lt T1.out.lt))
  clear t2 al T1 X1 HB1
  go_wp2_with fail
  refine (carry_yes' N 4 3 _ _ _ _ #[.int .i64 (y), .int .i64 (mo), .int .i64 (d), .int .i64 (23 + 1), .int .i64 (0), .int .i64 (0)] _ T2.out rfl rfl (by decide) (by omega) (by omega) rfl).mono ?_
  rintro e w3 ⟨rfl, t3, al⟩
  have T3 := Lib.hid t3
  have X3 := Lib.hid (al.whole X2.out (by omega))
  have HB3 := Lib.hid (al.below HB2.out (by omega) (Nat.le_of_lt T2.out.lt))
  clear t3 al T2 X2 HB2
  go_wp2_with fail
  refine (carry_yes' N 3 2 _ _ _ _ #[.int .i64 (y), .int .i64 (mo), .int .i64 (d + 1), .int .i64 (0), .int .i64 (0), .int .i64 (0)] _ T3.out rfl rfl (by decide) (by omega) (by omega) rfl).mono ?_
  rintro e w4 ⟨rfl, t4, al⟩
  have T4 := Lib.hid t4
  have X4 := Lib.hid (al.whole X3.out (by omega))
  have HB4 := Lib.hid (al.below HB3.out (by omega) (Nat.le_of_lt T3.out.lt))
  clear t4 al T3 X3 HB3
  have c := T4.out.cell
  go_wp2_with fail
  clear c
  refine (days_any _ _ _).mono ?_
  rintro e w' ⟨rfl, rfl⟩
  go_wp2_with fail
  refine (carry_no' N 2 1 _ _ _ _ _ T4.out rfl (by simp; omega)).mono ?_
  rintro e w5 ⟨rfl, t5, al⟩
  have T5 := Lib.hid t5
  have X5 := Lib.hid (al.whole X4.out (by omega))
  have HB5 := Lib.hid (al.below HB4.out (by omega) (Nat.le_of_lt T4.out.lt))
  clear t5 al T4 X4 HB4
  go_wp2_with fail
  refine (carry_no' N 1 0 _ _ _ _ _ T5.out rfl (by simp; omega)).mono ?_
  rintro e w6 ⟨rfl, t6, al⟩
  have T6 := Lib.hid t6
  have X6 := Lib.hid (al.whole X5.out (by omega))
  have HB6 := Lib.hid (al.below HB5.out (by omega) (Nat.le_of_lt T5.out.lt))
  clear t6 al T5 X5 HB5
  have c := T6.out.cell
  go_wp2_with fail
  clear c
  refine (right_b (r := true) _ HQ.out).mono ?_
  rintro e w7 ⟨rfl, hb⟩
  have X7 := Lib.hid (X6.out.below' hb)
  have T7 := Lib.hid (T6.out.below' hb)
  have HB7 := Lib.hid (HB6.out.trans (hb.mono (Nat.le_of_lt T6.out.lt)))
  clear hb T6 X6 HB6
  have c := T7.out.cell
  have cx := X7.out.cell
  have fx := X7.out.free
  have l := X7.out.lt
  go_wp2
  refine bodyPost_ret (v := .tuple #[tm (y) (mo) (d + 1) (0) (0) (0), .int .i64 0]) (by simp [results, Try.results13, go_sem, cx]) rfl ⟨rfl, ?_⟩
  rw [HN.out]
  iterate 6 refine Below.setCell ?_ (Nat.le_succ N) _
  exact HB7.out
set_option maxHeartbeats 2000000 in
theorem next_month (y mo d : Int) (w : World) (hb : rightB (y) (mo) (d) (23) (59) (58) = true) (hq : rightB (y) (mo + 1) (1) (0) (0) (0) = true) (HS : Hid (d = daysI y mo)) (hm : mo < 12) : Calls Try.prog 13 #[tm (y) (mo) (d) (23) (59) (58)] w fun e w' => e = .returned (.tuple #[tm (y) (mo + 1) (1) (0) (0) (0), .int .i64 0]) ∧ Below w.heap.size w w' := by
  have hr := RightT.of hb
  obtain ⟨a1, a2, a3, a4, a5, a6, a7, a8, a9, a10, a11, a12, a13⟩ := hr
  have hd := right_days hb
  have dl := days_le (y) (mo)
  have HR := Lib.hid hb
  have HQ := Lib.hid hq
  clear hb hq
  go_enter Try.func13, Try.ntmps13
  go_wp2_with fail
  refine (right_b _ HR.out).mono ?_
  rintro e w1 ⟨rfl, hb1⟩
  have T0 := Lib.hid (((Whole.new w 23 #[.int .i64 (y), .int .i64 (mo), .int .i64 (d), .int .i64 (23), .int .i64 (59), .int .i64 (58)] rfl).alloc (.cells #[.int .i64 (0), .int .i64 (0), .int .i64 (0), .int .i64 (0), .int .i64 (0), .int .i64 (0)] 23)).below' hb1)
  have X := Lib.hid ((Whole.new (w.alloc (.cells #[.int .i64 (y), .int .i64 (mo), .int .i64 (d), .int .i64 (23), .int .i64 (59), .int .i64 (58)] 23)) 23 #[.int .i64 (0), .int .i64 (0), .int .i64 (0), .int .i64 (0), .int .i64 (0), .int .i64 (0)] rfl).below' hb1)
  have HB0 := Lib.hid ((((Below.refl _ _).alloc (Nat.le_refl _) _).alloc (by simp) _).trans (hb1.mono (by simp; omega)))
  clear hb1 HR
  have X0 : Hid (Whole w1 (w.heap.size + 1) 23 #[.int .i64 (0), .int .i64 (0), .int .i64 (0), .int .i64 (0), .int .i64 (0), .int .i64 (0)]) := by
    have h := X.out
    rw [World.size_alloc] at h
    exact Lib.hid h
  clear X
  obtain ⟨N, hN⟩ : ∃ N, w.heap.size = N := ⟨_, rfl⟩
  rw [hN] at T0 HB0 X0
  have HN := Lib.hid hN
  rw [hN]
  clear hN
  have l := X0.out.lt
  have c := T0.out.cell
  have f := T0.out.free
  go_wp2_with fail
  clear c f
  have T1 := Lib.hid (T0.out.put 5 (.int .i64 (60)) (cs' := #[.int .i64 (y), .int .i64 (mo), .int .i64 (d), .int .i64 (23), .int .i64 (59), .int .i64 (60)]) rfl)
  have X1 := Lib.hid (X0.out.other (p := ⟨N, 5, none⟩) (by simp) (.int .i64 (60)))
  have HB1 := Lib.hid (HB0.out.setCell (p := ⟨N, 5, none⟩) (by exact Nat.le_refl _) (.int .i64 (60)))
  clear T0 X0 HB0
  go_wp2_with fail
  refine (carry_yes' N 5 4 _ _ _ _ #[.int .i64 (y), .int .i64 (mo), .int .i64 (d), .int .i64 (23), .int .i64 (59 + 1), .int .i64 (0)] _ T1.out rfl rfl (by decide) (by omega) (by omega) rfl).mono ?_
  rintro e w2 ⟨rfl, t2, al⟩
  have T2 := Lib.hid t2
  have X2 := Lib.hid (al.whole X1.out (by omega))
  have HB2 := Lib.hid (al.below HB1.out (by omega) (Nat.le_of_lt T1.out.lt))
  clear t2 al T1 X1 HB1
  go_wp2_with fail
  refine (carry_yes' N 4 3 _ _ _ _ #[.int .i64 (y), .int .i64 (mo), .int .i64 (d), .int .i64 (23 + 1), .int .i64 (0), .int .i64 (0)] _ T2.out rfl rfl (by decide) (by omega) (by omega) rfl).mono ?_
  rintro e w3 ⟨rfl, t3, al⟩
  have T3 := Lib.hid t3
  have X3 := Lib.hid (al.whole X2.out (by omega))
  have HB3 := Lib.hid (al.below HB2.out (by omega) (Nat.le_of_lt T2.out.lt))
  clear t3 al T2 X2 HB2
  go_wp2_with fail
  refine (carry_yes' N 3 2 _ _ _ _ #[.int .i64 (y), .int .i64 (mo), .int .i64 (d + 1), .int .i64 (0), .int .i64 (0), .int .i64 (0)] _ T3.out rfl rfl (by decide) (by omega) (by omega) rfl).mono ?_
  rintro e w4 ⟨rfl, t4, al⟩
  have T4 := Lib.hid t4
  have X4 := Lib.hid (al.whole X3.out (by omega))
  have HB4 := Lib.hid (al.below HB3.out (by omega) (Nat.le_of_lt T3.out.lt))
  clear t4 al T3 X3 HB3
  have c := T4.out.cell
  go_wp2_with fail
  clear c
  refine (days_any _ _ _).mono ?_
  rintro e w' ⟨rfl, rfl⟩
  go_wp2_with fail
  have hdd : d + 1 = daysI (y) (mo) + 1 := by rw [HS.out]
  rw [← hdd]
  clear hdd
  refine (carry_yes' N 2 1 _ _ _ _ #[.int .i64 (y), .int .i64 (mo + 1), .int .i64 (1), .int .i64 (0), .int .i64 (0), .int .i64 (0)] _ T4.out rfl rfl (by decide) (by omega) (by omega) rfl).mono ?_
  rintro e w5 ⟨rfl, t5, al⟩
  have T5 := Lib.hid t5
  have X5 := Lib.hid (al.whole X4.out (by omega))
  have HB5 := Lib.hid (al.below HB4.out (by omega) (Nat.le_of_lt T4.out.lt))
  clear t5 al T4 X4 HB4
  go_wp2_with fail
  refine (carry_no' N 1 0 _ _ _ _ _ T5.out rfl (by simp; omega)).mono ?_
  rintro e w6 ⟨rfl, t6, al⟩
  have T6 := Lib.hid t6
  have X6 := Lib.hid (al.whole X5.out (by omega))
  have HB6 := Lib.hid (al.below HB5.out (by omega) (Nat.le_of_lt T5.out.lt))
  clear t6 al T5 X5 HB5
  have c := T6.out.cell
  go_wp2_with fail
  clear c
  refine (right_b (r := true) _ HQ.out).mono ?_
  rintro e w7 ⟨rfl, hb⟩
  have X7 := Lib.hid (X6.out.below' hb)
  have T7 := Lib.hid (T6.out.below' hb)
  have HB7 := Lib.hid (HB6.out.trans (hb.mono (Nat.le_of_lt T6.out.lt)))
  clear hb T6 X6 HB6
  have c := T7.out.cell
  have cx := X7.out.cell
  have fx := X7.out.free
  have l := X7.out.lt
  go_wp2
  refine bodyPost_ret (v := .tuple #[tm (y) (mo + 1) (1) (0) (0) (0), .int .i64 0]) (by simp [results, Try.results13, go_sem, cx]) rfl ⟨rfl, ?_⟩
  rw [HN.out]
  iterate 6 refine Below.setCell ?_ (Nat.le_succ N) _
  exact HB7.out
set_option maxHeartbeats 2000000 in
theorem next_year (y d : Int) (w : World) (hb : rightB (y) (12) (d) (23) (59) (58) = true) (hq : rightB (y + 1) (1) (1) (0) (0) (0) = true) (HS : Hid (d = daysI y 12)) : Calls Try.prog 13 #[tm (y) (12) (d) (23) (59) (58)] w fun e w' => e = .returned (.tuple #[tm (y + 1) (1) (1) (0) (0) (0), .int .i64 0]) ∧ Below w.heap.size w w' := by
  have hr := RightT.of hb
  obtain ⟨a1, a2, a3, a4, a5, a6, a7, a8, a9, a10, a11, a12, a13⟩ := hr
  have hd := right_days hb
  have dl := days_le (y) (12)
  have HR := Lib.hid hb
  have HQ := Lib.hid hq
  clear hb hq
  go_enter Try.func13, Try.ntmps13
  go_wp2_with fail
  refine (right_b _ HR.out).mono ?_
  rintro e w1 ⟨rfl, hb1⟩
  have T0 := Lib.hid (((Whole.new w 23 #[.int .i64 (y), .int .i64 (12), .int .i64 (d), .int .i64 (23), .int .i64 (59), .int .i64 (58)] rfl).alloc (.cells #[.int .i64 (0), .int .i64 (0), .int .i64 (0), .int .i64 (0), .int .i64 (0), .int .i64 (0)] 23)).below' hb1)
  have X := Lib.hid ((Whole.new (w.alloc (.cells #[.int .i64 (y), .int .i64 (12), .int .i64 (d), .int .i64 (23), .int .i64 (59), .int .i64 (58)] 23)) 23 #[.int .i64 (0), .int .i64 (0), .int .i64 (0), .int .i64 (0), .int .i64 (0), .int .i64 (0)] rfl).below' hb1)
  have HB0 := Lib.hid ((((Below.refl _ _).alloc (Nat.le_refl _) _).alloc (by simp) _).trans (hb1.mono (by simp; omega)))
  clear hb1 HR
  have X0 : Hid (Whole w1 (w.heap.size + 1) 23 #[.int .i64 (0), .int .i64 (0), .int .i64 (0), .int .i64 (0), .int .i64 (0), .int .i64 (0)]) := by
    have h := X.out
    rw [World.size_alloc] at h
    exact Lib.hid h
  clear X
  obtain ⟨N, hN⟩ : ∃ N, w.heap.size = N := ⟨_, rfl⟩
  rw [hN] at T0 HB0 X0
  have HN := Lib.hid hN
  rw [hN]
  clear hN
  have l := X0.out.lt
  have c := T0.out.cell
  have f := T0.out.free
  go_wp2_with fail
  clear c f
  have T1 := Lib.hid (T0.out.put 5 (.int .i64 (60)) (cs' := #[.int .i64 (y), .int .i64 (12), .int .i64 (d), .int .i64 (23), .int .i64 (59), .int .i64 (60)]) rfl)
  have X1 := Lib.hid (X0.out.other (p := ⟨N, 5, none⟩) (by simp) (.int .i64 (60)))
  have HB1 := Lib.hid (HB0.out.setCell (p := ⟨N, 5, none⟩) (by exact Nat.le_refl _) (.int .i64 (60)))
  clear T0 X0 HB0
  go_wp2_with fail
  refine (carry_yes' N 5 4 _ _ _ _ #[.int .i64 (y), .int .i64 (12), .int .i64 (d), .int .i64 (23), .int .i64 (59 + 1), .int .i64 (0)] _ T1.out rfl rfl (by decide) (by omega) (by omega) rfl).mono ?_
  rintro e w2 ⟨rfl, t2, al⟩
  have T2 := Lib.hid t2
  have X2 := Lib.hid (al.whole X1.out (by omega))
  have HB2 := Lib.hid (al.below HB1.out (by omega) (Nat.le_of_lt T1.out.lt))
  clear t2 al T1 X1 HB1
  go_wp2_with fail
  refine (carry_yes' N 4 3 _ _ _ _ #[.int .i64 (y), .int .i64 (12), .int .i64 (d), .int .i64 (23 + 1), .int .i64 (0), .int .i64 (0)] _ T2.out rfl rfl (by decide) (by omega) (by omega) rfl).mono ?_
  rintro e w3 ⟨rfl, t3, al⟩
  have T3 := Lib.hid t3
  have X3 := Lib.hid (al.whole X2.out (by omega))
  have HB3 := Lib.hid (al.below HB2.out (by omega) (Nat.le_of_lt T2.out.lt))
  clear t3 al T2 X2 HB2
  go_wp2_with fail
  refine (carry_yes' N 3 2 _ _ _ _ #[.int .i64 (y), .int .i64 (12), .int .i64 (d + 1), .int .i64 (0), .int .i64 (0), .int .i64 (0)] _ T3.out rfl rfl (by decide) (by omega) (by omega) rfl).mono ?_
  rintro e w4 ⟨rfl, t4, al⟩
  have T4 := Lib.hid t4
  have X4 := Lib.hid (al.whole X3.out (by omega))
  have HB4 := Lib.hid (al.below HB3.out (by omega) (Nat.le_of_lt T3.out.lt))
  clear t4 al T3 X3 HB3
  have c := T4.out.cell
  go_wp2_with fail
  clear c
  refine (days_any _ _ _).mono ?_
  rintro e w' ⟨rfl, rfl⟩
  go_wp2_with fail
  have hdd : d + 1 = daysI (y) (12) + 1 := by rw [HS.out]
  rw [← hdd]
  clear hdd
  refine (carry_yes' N 2 1 _ _ _ _ #[.int .i64 (y), .int .i64 (12 + 1), .int .i64 (1), .int .i64 (0), .int .i64 (0), .int .i64 (0)] _ T4.out rfl rfl (by decide) (by omega) (by omega) rfl).mono ?_
  rintro e w5 ⟨rfl, t5, al⟩
  have T5 := Lib.hid t5
  have X5 := Lib.hid (al.whole X4.out (by omega))
  have HB5 := Lib.hid (al.below HB4.out (by omega) (Nat.le_of_lt T4.out.lt))
  clear t5 al T4 X4 HB4
  go_wp2_with fail
  refine (carry_yes' N 1 0 _ _ _ _ #[.int .i64 (y + 1), .int .i64 (1), .int .i64 (1), .int .i64 (0), .int .i64 (0), .int .i64 (0)] _ T5.out rfl rfl (by decide) (by omega) (by omega) rfl).mono ?_
  rintro e w6 ⟨rfl, t6, al⟩
  have T6 := Lib.hid t6
  have X6 := Lib.hid (al.whole X5.out (by omega))
  have HB6 := Lib.hid (al.below HB5.out (by omega) (Nat.le_of_lt T5.out.lt))
  clear t6 al T5 X5 HB5
  have c := T6.out.cell
  go_wp2_with fail
  clear c
  refine (right_b (r := true) _ HQ.out).mono ?_
  rintro e w7 ⟨rfl, hb⟩
  have X7 := Lib.hid (X6.out.below' hb)
  have T7 := Lib.hid (T6.out.below' hb)
  have HB7 := Lib.hid (HB6.out.trans (hb.mono (Nat.le_of_lt T6.out.lt)))
  clear hb T6 X6 HB6
  have c := T7.out.cell
  have cx := X7.out.cell
  have fx := X7.out.free
  have l := X7.out.lt
  go_wp2
  refine bodyPost_ret (v := .tuple #[tm (y + 1) (1) (1) (0) (0) (0), .int .i64 0]) (by simp [results, Try.results13, go_sem, cx]) rfl ⟨rfl, ?_⟩
  rw [HN.out]
  iterate 6 refine Below.setCell ?_ (Nat.le_succ N) _
  exact HB7.out
set_option maxHeartbeats 2000000 in
theorem next_end (y d : Int) (w : World) (hb : rightB (y) (12) (d) (23) (59) (58) = true) (hq : rightB (y + 1) (1) (1) (0) (0) (0) = false) (HS : Hid (d = daysI y 12)) : Calls Try.prog 13 #[tm (y) (12) (d) (23) (59) (58)] w fun e w' => e = .returned (.tuple #[tm 0 0 0 0 0 0, .int .i64 34]) ∧ Below w.heap.size w w' := by
  have hr := RightT.of hb
  obtain ⟨a1, a2, a3, a4, a5, a6, a7, a8, a9, a10, a11, a12, a13⟩ := hr
  have hd := right_days hb
  have dl := days_le (y) (12)
  have HR := Lib.hid hb
  have HQ := Lib.hid hq
  clear hb hq
  go_enter Try.func13, Try.ntmps13
  go_wp2_with fail
  refine (right_b _ HR.out).mono ?_
  rintro e w1 ⟨rfl, hb1⟩
  have T0 := Lib.hid (((Whole.new w 23 #[.int .i64 (y), .int .i64 (12), .int .i64 (d), .int .i64 (23), .int .i64 (59), .int .i64 (58)] rfl).alloc (.cells #[.int .i64 (0), .int .i64 (0), .int .i64 (0), .int .i64 (0), .int .i64 (0), .int .i64 (0)] 23)).below' hb1)
  have X := Lib.hid ((Whole.new (w.alloc (.cells #[.int .i64 (y), .int .i64 (12), .int .i64 (d), .int .i64 (23), .int .i64 (59), .int .i64 (58)] 23)) 23 #[.int .i64 (0), .int .i64 (0), .int .i64 (0), .int .i64 (0), .int .i64 (0), .int .i64 (0)] rfl).below' hb1)
  have HB0 := Lib.hid ((((Below.refl _ _).alloc (Nat.le_refl _) _).alloc (by simp) _).trans (hb1.mono (by simp; omega)))
  clear hb1 HR
  have X0 : Hid (Whole w1 (w.heap.size + 1) 23 #[.int .i64 (0), .int .i64 (0), .int .i64 (0), .int .i64 (0), .int .i64 (0), .int .i64 (0)]) := by
    have h := X.out
    rw [World.size_alloc] at h
    exact Lib.hid h
  clear X
  obtain ⟨N, hN⟩ : ∃ N, w.heap.size = N := ⟨_, rfl⟩
  rw [hN] at T0 HB0 X0
  have HN := Lib.hid hN
  rw [hN]
  clear hN
  have l := X0.out.lt
  have c := T0.out.cell
  have f := T0.out.free
  go_wp2_with fail
  clear c f
  have T1 := Lib.hid (T0.out.put 5 (.int .i64 (60)) (cs' := #[.int .i64 (y), .int .i64 (12), .int .i64 (d), .int .i64 (23), .int .i64 (59), .int .i64 (60)]) rfl)
  have X1 := Lib.hid (X0.out.other (p := ⟨N, 5, none⟩) (by simp) (.int .i64 (60)))
  have HB1 := Lib.hid (HB0.out.setCell (p := ⟨N, 5, none⟩) (by exact Nat.le_refl _) (.int .i64 (60)))
  clear T0 X0 HB0
  go_wp2_with fail
  refine (carry_yes' N 5 4 _ _ _ _ #[.int .i64 (y), .int .i64 (12), .int .i64 (d), .int .i64 (23), .int .i64 (59 + 1), .int .i64 (0)] _ T1.out rfl rfl (by decide) (by omega) (by omega) rfl).mono ?_
  rintro e w2 ⟨rfl, t2, al⟩
  have T2 := Lib.hid t2
  have X2 := Lib.hid (al.whole X1.out (by omega))
  have HB2 := Lib.hid (al.below HB1.out (by omega) (Nat.le_of_lt T1.out.lt))
  clear t2 al T1 X1 HB1
  go_wp2_with fail
  refine (carry_yes' N 4 3 _ _ _ _ #[.int .i64 (y), .int .i64 (12), .int .i64 (d), .int .i64 (23 + 1), .int .i64 (0), .int .i64 (0)] _ T2.out rfl rfl (by decide) (by omega) (by omega) rfl).mono ?_
  rintro e w3 ⟨rfl, t3, al⟩
  have T3 := Lib.hid t3
  have X3 := Lib.hid (al.whole X2.out (by omega))
  have HB3 := Lib.hid (al.below HB2.out (by omega) (Nat.le_of_lt T2.out.lt))
  clear t3 al T2 X2 HB2
  go_wp2_with fail
  refine (carry_yes' N 3 2 _ _ _ _ #[.int .i64 (y), .int .i64 (12), .int .i64 (d + 1), .int .i64 (0), .int .i64 (0), .int .i64 (0)] _ T3.out rfl rfl (by decide) (by omega) (by omega) rfl).mono ?_
  rintro e w4 ⟨rfl, t4, al⟩
  have T4 := Lib.hid t4
  have X4 := Lib.hid (al.whole X3.out (by omega))
  have HB4 := Lib.hid (al.below HB3.out (by omega) (Nat.le_of_lt T3.out.lt))
  clear t4 al T3 X3 HB3
  have c := T4.out.cell
  go_wp2_with fail
  clear c
  refine (days_any _ _ _).mono ?_
  rintro e w' ⟨rfl, rfl⟩
  go_wp2_with fail
  have hdd : d + 1 = daysI (y) (12) + 1 := by rw [HS.out]
  rw [← hdd]
  clear hdd
  refine (carry_yes' N 2 1 _ _ _ _ #[.int .i64 (y), .int .i64 (12 + 1), .int .i64 (1), .int .i64 (0), .int .i64 (0), .int .i64 (0)] _ T4.out rfl rfl (by decide) (by omega) (by omega) rfl).mono ?_
  rintro e w5 ⟨rfl, t5, al⟩
  have T5 := Lib.hid t5
  have X5 := Lib.hid (al.whole X4.out (by omega))
  have HB5 := Lib.hid (al.below HB4.out (by omega) (Nat.le_of_lt T4.out.lt))
  clear t5 al T4 X4 HB4
  go_wp2_with fail
  refine (carry_yes' N 1 0 _ _ _ _ #[.int .i64 (y + 1), .int .i64 (1), .int .i64 (1), .int .i64 (0), .int .i64 (0), .int .i64 (0)] _ T5.out rfl rfl (by decide) (by omega) (by omega) rfl).mono ?_
  rintro e w6 ⟨rfl, t6, al⟩
  have T6 := Lib.hid t6
  have X6 := Lib.hid (al.whole X5.out (by omega))
  have HB6 := Lib.hid (al.below HB5.out (by omega) (Nat.le_of_lt T5.out.lt))
  clear t6 al T5 X5 HB5
  have c := T6.out.cell
  go_wp2_with fail
  clear c
  refine (right_b (r := false) _ HQ.out).mono ?_
  rintro e w7 ⟨rfl, hb⟩
  have X7 := Lib.hid (X6.out.below' hb)
  have T7 := Lib.hid (T6.out.below' hb)
  have HB7 := Lib.hid (HB6.out.trans (hb.mono (Nat.le_of_lt T6.out.lt)))
  clear hb T6 X6 HB6
  have c := T7.out.cell
  have cx := X7.out.cell
  have fx := X7.out.free
  have l := X7.out.lt
  go_wp2
  refine bodyPost_ret (v := .tuple #[tm 0 0 0 0 0 0, .int .i64 34]) (by simp [results, Try.results13, go_sem, cx]) rfl ⟨rfl, ?_⟩
  rw [HN.out]
  iterate 6 refine Below.setCell ?_ (Nat.le_succ N) _
  exact HB7.out
end Go.Proofs.Ytfjbjfebopabaaa
