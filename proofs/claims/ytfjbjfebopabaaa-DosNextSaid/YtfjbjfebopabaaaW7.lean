import Derived.Test.YtfjbjfebopabaaaW6
namespace Go.Proofs.Ytfjbjfebopabaaa
open Go.RowKit

theorem cmpT_cons (x y : Int) (xs ys : List Int) : cmpT (x :: xs) (y :: ys) = if x < y then -1 else if y < x then 1 else cmpT xs ys := by
  simp only [cmpT, List.zipWith_cons_cons, orL, cmpI]
  split
  · rfl
  · split <;> rfl
theorem order {y mo d h mi s y' mo' d' h' mi' s' : Int} (hr : RightT y mo d h mi s) (hr' : RightT y' mo' d' h' mi' s') :
    (cmpT [y, mo, d, h, mi, s] [y', mo', d', h', mi', s'] < 0 ∧ dateI y mo d < dateI y' mo' d') ∨
    (cmpT [y, mo, d, h, mi, s] [y', mo', d', h', mi', s'] < 0 ∧ dateI y mo d = dateI y' mo' d' ∧ clockI h mi s < clockI h' mi' s') ∨
    (cmpT [y, mo, d, h, mi, s] [y', mo', d', h', mi', s'] = 0 ∧ dateI y mo d = dateI y' mo' d' ∧ clockI h mi s = clockI h' mi' s') ∨
    (0 < cmpT [y, mo, d, h, mi, s] [y', mo', d', h', mi', s'] ∧ dateI y' mo' d' < dateI y mo d) ∨
    (0 < cmpT [y, mo, d, h, mi, s] [y', mo', d', h', mi', s'] ∧ dateI y mo d = dateI y' mo' d' ∧ clockI h' mi' s' < clockI h mi s) := by
  obtain ⟨a1, a2, a3, a4, a5, a6, a7, a8, a9, a10, a11, a12, a13⟩ := hr
  obtain ⟨b1, b2, b3, b4, b5, b6, b7, b8, b9, b10, b11, b12, b13⟩ := hr'
  unfold dateI clockI
  simp only [cmpT_cons]
  have e : cmpT [] [] = 0 := rfl
  rw [e]
  by_cases c1 : y < y'
  · rw [if_pos c1]; omega
  rw [if_neg c1]
  by_cases c2 : y' < y
  · rw [if_pos c2]; omega
  rw [if_neg c2]
  by_cases c3 : mo < mo'
  · rw [if_pos c3]; omega
  rw [if_neg c3]
  by_cases c4 : mo' < mo
  · rw [if_pos c4]; omega
  rw [if_neg c4]
  by_cases c5 : d < d'
  · rw [if_pos c5]; omega
  rw [if_neg c5]
  by_cases c6 : d' < d
  · rw [if_pos c6]; omega
  rw [if_neg c6]
  by_cases c7 : h < h'
  · rw [if_pos c7]; omega
  rw [if_neg c7]
  by_cases c8 : h' < h
  · rw [if_pos c8]; omega
  rw [if_neg c8]
  by_cases c9 : mi < mi'
  · rw [if_pos c9]; omega
  rw [if_neg c9]
  by_cases c10 : mi' < mi
  · rw [if_pos c10]; omega
  rw [if_neg c10]
  by_cases c11 : s < s'
  · rw [if_pos c11]; omega
  rw [if_neg c11]
  by_cases c12 : s' < s
  · rw [if_pos c12]; omega
  rw [if_neg c12]
  omega
theorem rright_b {y mo d h mi s : Int} {r : Bool} (w : World) (hb : rightB y mo d h mi s = r) :
    Calls Try.prog 7 #[tm y mo d h mi s] w fun e w' => e = .returned (.bool r) ∧ Below w.heap.size w w' := by
  rw [← hb]; exact rright_any _ _ _ _ _ _ _
/-- What a call that only makes memory leaves of three blocks. -/
theorem keep3 {W w1 : World} (hb : Below W.heap.size W w1) (n : Nat) (hn : n + 1 + 1 < W.heap.size) :
    (∀ o, w1.cell? ⟨n, o, none⟩ = W.cell? ⟨n, o, none⟩) ∧ (∀ o, w1.cell? ⟨n + 1, o, none⟩ = W.cell? ⟨n + 1, o, none⟩) ∧ (∀ o, w1.cell? ⟨n + 1 + 1, o, none⟩ = W.cell? ⟨n + 1 + 1, o, none⟩) ∧ n + 1 + 1 < w1.heap.size :=
  ⟨fun o => hb.cell (p := ⟨n, o, none⟩) (by show n < _; omega), fun o => hb.cell (p := ⟨n + 1, o, none⟩) (by show n + 1 < _; omega), fun o => hb.cell (p := ⟨n + 1 + 1, o, none⟩) (by show n + 1 + 1 < _; omega), by have := hb.size; omega⟩
set_option maxHeartbeats 1000000 in
theorem order_any (y mo d h mi s y' mo' d' h' mi' s' m0 m1 : Int) (w : World) :
    Calls Try.prog 5 #[tm y mo d h mi s, tm y' mo' d' h' mi' s', .agg #[.int .i64 m0, .int .i64 m1]] w fun e w' => e = .returned (.bool true) ∧ Below w.heap.size w w' := by
  have hra : ∃ ra, rightB y mo d h mi s = ra := ⟨_, rfl⟩
  have hrb : ∃ rb, rightB y' mo' d' h' mi' s' = rb := ⟨_, rfl⟩
  obtain ⟨ra, hra⟩ := hra
  obtain ⟨rb, hrb⟩ := hrb
  have RA := Lib.hid hra
  have RB := Lib.hid hrb
  clear hra hrb
  go_enter Try.func5, Try.ntmps5
  go_wp2_with fail
  refine (awake_any _).mono ?_
  rintro e w1 ⟨rfl, hb1⟩
  obtain ⟨k0, k1, k2, k3⟩ := keep3 hb1 w.heap.size (by simp)
  have HB1 := Lib.hid hb1
  clear hb1
  go_wp2_with fail
  refine (compare_any _ _ _ _ _ _ _ _ _ _ _ _ _).mono ?_
  rintro e w2 ⟨rfl, hb2⟩
  obtain ⟨j0, j1, j2, j3⟩ := keep3 hb2 w.heap.size k3
  have s0 : w.heap.size < w2.heap.size := by omega
  have s1 : w.heap.size + 1 < w2.heap.size := by omega
  have HB2 := Lib.hid hb2
  clear hb2
  go_wp2
  refine wp_region_over_lit (by kernel_rfl) (by kernel_rfl) ?_
  repeat (go_big_quiet_step ((first | (go_at_call 16; exact Calls.over_of (rcompare_any _ _ _ _ _ _ _ _ _ _ _ _ _)) | (go_at_call 17; exact Calls.over_same (days_any _ _ _)) | (go_at_call 18; exact Calls.over_of (rdays_any _ _ _)))))
  refine wpQuiet_nil ?_
  intro _ hx1
  obtain ⟨x1, hx2⟩ := hx1
  subst hx2
  have HB3 := Lib.hid (World.over_below w2 x1)
  generalize hw3 : w2.over x1 = w3 at *
  have i0 : ∀ o, w3.cell? ⟨w.heap.size, o, none⟩ = w2.cell? ⟨w.heap.size, o, none⟩ := fun o => HB3.out.cell (p := ⟨_, o, none⟩) s0
  have i1 : ∀ o, w3.cell? ⟨w.heap.size + 1, o, none⟩ = w2.cell? ⟨w.heap.size + 1, o, none⟩ := fun o => HB3.out.cell (p := ⟨_, o, none⟩) s1
  have i3 : w.heap.size + 1 + 1 < w3.heap.size := by have := HB3.out.size; omega
  clear hw3 s0 s1 j3
  go_wp2_with fail
  refine (rright_b _ RA.out).mono ?_
  rintro e w4 ⟨rfl, hb4⟩
  obtain ⟨l0, l1, l2, l3⟩ := keep3 hb4 w.heap.size i3
  clear l2 i3
  have HB4 := Lib.hid hb4
  clear hb4
  have HB5 : Below w.heap.size w w4 := by
    have a1 := HB1.out
    have a2 := HB2.out
    have a3 := HB3.out
    have a4 := HB4.out
    refine (((Below.refl w.heap.size w).alloc (Nat.le_refl _) _).alloc (by simp) _).alloc (by simp; omega) _ |>.trans ((a1.mono (by simp; omega)).trans ((a2.mono ?_).trans ((a3.mono ?_).trans (a4.mono ?_))))
    · have := a1.size; simp at this; omega
    · have := a1.size; have := a2.size; simp at *; omega
    · have := a1.size; have := a2.size; have := a3.size; simp at *; omega
  have HB6 := Lib.hid HB5
  clear HB5 HB1 HB2 HB3 HB4
  rcases ra with _ | _
  · go_wp2
    go_ret
    exact ⟨rfl, HB6.out⟩
  go_wp2_with fail
  refine (rright_b _ RB.out).mono ?_
  rintro e w5 ⟨rfl, hb5⟩
  obtain ⟨n0, n1, n2, n3⟩ := keep3 hb5 w.heap.size l3
  clear n2 l3
  have HB7 : Below w.heap.size w w5 := HB6.out.trans (hb5.mono HB6.out.size)
  have HB8 := Lib.hid HB7
  clear HB7 hb5 HB6
  rcases rb with _ | _
  · go_wp2
    go_ret
    exact ⟨rfl, HB8.out⟩
  have ho := order (RightT.of RA.out) (RightT.of RB.out)
  have HO := Lib.hid ho
  clear ho
  go_wp2_with fail
  refine (rencode_any _ _ _ _ _ _ _ (RightT.of RA.out)).mono ?_
  rintro e w6 ⟨rfl, hb6⟩
  obtain ⟨o0, o1, o2, o3⟩ := keep3 hb6 w.heap.size n3
  clear o2 n3
  have HB9 : Below w.heap.size w w6 := HB8.out.trans (hb6.mono HB8.out.size)
  have HB10 := Lib.hid HB9
  clear HB9 hb6 HB8
  go_wp2_with fail
  refine (rencode_any _ _ _ _ _ _ _ (RightT.of RB.out)).mono ?_
  rintro e w7 ⟨rfl, hb7⟩
  have HB11 : Below w.heap.size w w7 := HB10.out.trans (hb7.mono HB10.out.size)
  have HB12 := Lib.hid HB11
  clear HB11 hb7 HB10 RA RB
  clear k0 k1 k2 j0 j1 j2 i0 i1 l0 l1 n0 n1 o0 o1 o3 k3
  have ho := HO.out
  clear HO
  generalize cmpT [y, mo, d, h, mi, s] [y', mo', d', h', mi', s'] = C at *
  generalize dateI y mo d = X at *
  generalize dateI y' mo' d' = Z at *
  generalize clockI h mi s = Y at *
  generalize clockI h' mi' s' = W at *
  rcases ho with ⟨ha, hb⟩ | ⟨ha, hb, hc⟩ | ⟨ha, hb, hc⟩ | ⟨ha, hb⟩ | ⟨ha, hb, hc⟩
  all_goals
    (try subst hb)
    (try subst hc)
    go_wp2
    go_ret
    refine ⟨ret_bool ?_, HB12.out⟩
    try simp
    all_goals try omega
    all_goals (try (rw [Bool.eq_iff_iff]; simp; omega))
end Go.Proofs.Ytfjbjfebopabaaa
