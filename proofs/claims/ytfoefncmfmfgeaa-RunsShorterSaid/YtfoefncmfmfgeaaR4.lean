/- right, extend. -/
import Derived.Test.YtfoefncmfmfgeaaR3
namespace Go.Proofs.Ytfoefncmfmfgeaa
open Go.RowKit

theorem bits_any (s : Int) (w : World) : Calls Try.prog 19 #[.int .i64 s] w fun e w' => e = .returned (.int .i64 (if s < 0 ∨ 18 < s then -1 else if s = 16 then 2 else if s = 17 then 3 else if s = 18 then 7 else 0)) ∧ w = w' := by
  by_cases h0 : s < 0
  · have x0 : decide (s < 0) = true := by simpa using h0
    rw [if_pos (.inl h0)]
    go_enter Try.func19, Try.ntmps19
    go_wp2
    go_ret
    exact ⟨rfl, rfl⟩
  · have x0 : decide (s < 0) = false := by simpa using h0
    by_cases h18 : 18 < s
    · have x1 : decide (18 < s) = true := by simpa using h18
      rw [if_pos (.inr h18)]
      go_enter Try.func19, Try.ntmps19
      go_wp2
      go_ret
      exact ⟨rfl, rfl⟩
    · have x1 : decide (18 < s) = false := by simpa using h18
      rw [if_neg (by omega)]
      by_cases h1 : s = 16
      · subst h1
        go_enter Try.func19, Try.ntmps19
        go_wp2
        go_ret
        exact ⟨rfl, rfl⟩
      · rw [if_neg h1]
        have x2 : (s == 16) = false := by simpa using h1
        by_cases h2 : s = 17
        · subst h2
          go_enter Try.func19, Try.ntmps19
          go_wp2
          go_ret
          exact ⟨rfl, rfl⟩
        · rw [if_neg h2]
          have x3 : (s == 17) = false := by simpa using h2
          by_cases h3 : s = 18
          · subst h3
            go_enter Try.func19, Try.ntmps19
            go_wp2
            go_ret
            exact ⟨rfl, rfl⟩
          · rw [if_neg h3]
            have x4 : (s == 18) = false := by simpa using h3
            clear h0 h18 h1 h2 h3
            go_enter Try.func19, Try.ntmps19
            go_wp2
            go_ret
            exact ⟨rfl, rfl⟩
theorem bits_a (s : Int) (w : World) (h : 0 ≤ s ∧ s ≤ 15) : Calls Try.prog 19 #[.int .i64 s] w fun e w' => e = .returned (.int .i64 0) ∧ w = w' := by
  have := bits_any s w
  rwa [if_neg (by omega), if_neg (by omega), if_neg (by omega), if_neg (by omega)] at this
theorem bits_b (w : World) : Calls Try.prog 19 #[.int .i64 16] w fun e w' => e = .returned (.int .i64 2) ∧ w = w' := bits_any 16 w
theorem bits_c (w : World) : Calls Try.prog 19 #[.int .i64 17] w fun e w' => e = .returned (.int .i64 3) ∧ w = w' := bits_any 17 w
theorem bits_d (w : World) : Calls Try.prog 19 #[.int .i64 18] w fun e w' => e = .returned (.int .i64 7) ∧ w = w' := bits_any 18 w
def RightP (w : World) (e : Ending) (w' : World) : Prop := e = .returned (.bool true) ∧ Below w.heap.size w w'
theorem right_a (s : Int) (hs : 0 ≤ s ∧ s ≤ 15) (w : World) : Calls Try.prog 18 #[.agg #[.int .i64 s, .int .i64 0]] w (RightP w) := by
  have HS := Lib.hid hs
  clear hs
  go_enter Try.func18, Try.ntmps18
  go_wp2_with fail
  refine (bits_a s _ HS.out).mono ?_
  rintro e' wx ⟨rfl, rfl⟩
  go_wp2
  go_quiet (fail)
  go_wp2
  go_ret
  exact ⟨rfl, ((Below.refl _ _).alloc (Nat.le_refl _) _).drewN' _⟩
theorem right_b (e : Int) (he : 0 ≤ e ∧ e ≤ 3) (w : World) : Calls Try.prog 18 #[.agg #[.int .i64 16, .int .i64 e]] w (RightP w) := by
  obtain ⟨h0, h1⟩ := he
  have x0 : decide (0 ≤ e) = true := by simpa using h0
  have x1 : decide (e < 4) = true := by simp; omega
  go_enter Try.func18, Try.ntmps18
  go_wp2_with fail
  refine (bits_b _).mono ?_
  rintro e' wx ⟨rfl, rfl⟩
  go_wp2
  go_quiet (fail)
  go_wp2
  go_ret
  exact ⟨rfl, ((Below.refl _ _).alloc (Nat.le_refl _) _).drewN' _⟩
theorem right_c (e : Int) (he : 0 ≤ e ∧ e ≤ 7) (w : World) : Calls Try.prog 18 #[.agg #[.int .i64 17, .int .i64 e]] w (RightP w) := by
  obtain ⟨h0, h1⟩ := he
  have x0 : decide (0 ≤ e) = true := by simpa using h0
  have x1 : decide (e < 8) = true := by simp; omega
  go_enter Try.func18, Try.ntmps18
  go_wp2_with fail
  refine (bits_c _).mono ?_
  rintro e' wx ⟨rfl, rfl⟩
  go_wp2
  go_quiet (fail)
  go_wp2
  go_ret
  exact ⟨rfl, ((Below.refl _ _).alloc (Nat.le_refl _) _).drewN' _⟩
theorem right_d (e : Int) (he : 0 ≤ e ∧ e ≤ 127) (w : World) : Calls Try.prog 18 #[.agg #[.int .i64 18, .int .i64 e]] w (RightP w) := by
  obtain ⟨h0, h1⟩ := he
  have x0 : decide (0 ≤ e) = true := by simpa using h0
  have x1 : decide (e < 128) = true := by simp; omega
  go_enter Try.func18, Try.ntmps18
  go_wp2_with fail
  refine (bits_d _).mono ?_
  rintro e' wx ⟨rfl, rfl⟩
  go_wp2
  go_quiet (fail)
  go_wp2
  go_ret
  exact ⟨rfl, ((Below.refl _ _).alloc (Nat.le_refl _) _).drewN' _⟩
def Ext (base : Nat) (g : List Int) (w : World) (e : Ending) (w' : World) : Prop :=
  ∃ A' c', e = .returned (.tuple #[.slice A' g.length c', .bool true]) ∧ w'.ownsRow base 3 1 (.slice A' g.length c') g.length (g.map (Value.int .i64)) ∧ Below base w w'
theorem own_drewN {w : World} {base size n : Nat} {e : TypeId} {v : Value} {xs : List Value} (h : w.ownsRow base e size v n xs) (k : Nat) : (w.drewN k).ownsRow base e size v n xs := h
theorem rep_snoc (f : List Int) (v : Int) (j : Nat) : (f ++ List.replicate (j + 1) v).map (Value.int .i64) = (f ++ List.replicate j v).map (Value.int .i64) ++ [.int .i64 v] := by
  rw [List.replicate_succ', ← List.append_assoc, List.map_append]
  rfl
set_option maxHeartbeats 1000000 in
theorem extend_a (base : Nat) (A : Option Addr) (n c most : Nat) (f : List Int) (s : Int) (hs : 0 ≤ s ∧ s ≤ 15) (w : World) (hO : w.ownsRow base 3 1 (.slice A n c) n (f.map (Value.int .i64))) (hb : base ≤ w.heap.size) (hm : n + 1 ≤ most) (hmost : most ≤ 1000000) :
    Calls Try.prog 15 #[.slice A n c, .agg #[.int .i64 s, .int .i64 0], .int .i64 (most : Nat)] w (Ext base (f ++ List.replicate 1 s) w) := by
  obtain ⟨i0, hi, hz0, hz1, hz2⟩ := info_parts info3
  simp only at hz0 hz1 hz2
  have hfl : f.length = n := by have := hO.1; simpa using this
  have hLI := (Lst.of_own hO)
  have hHO := hO
  have HS := Lib.hid hs
  have x16 : (s == 16) = false := by simp; omega
  have y16 : decide (s < 16) = true := by simp; omega
  have HR := Lib.hid (fun w => right_a s hs w)
  have HL : Hid (∀ w, Calls Try.prog 17 #[.int .i64 s] w fun e w' => e = .returned (.int .i64 1) ∧ w = w') := Lib.hid (fun w => by
    have := least_any s w
    rwa [runN_one s hs.2] at this)
  have K1 : Hid ((1 : Nat) = 1) := Lib.hid rfl
  clear hs
  have HF := Lib.hid hfl
  have HO := Lib.hid hHO
  have HBS := Lib.hid hb
  clear hO hHO hLI hfl
  have e1 : IntKind.i64.wrap (1 + 0) = (1 : Int) := by rw [IntWalk.i64_in _ (by omega)]; omega
  have m1 : decide ((most : Int) < (n : Nat)) = false := by simp; omega
  have m1' : decide (most < n) = false := by simp; omega
  have m2 : decide ((most : Int) - (n : Nat) < (1 : Int)) = false := by simp; omega
  have m3 : decide ((most : Int) - ((n : Nat) : Int) < (1 : Int)) = false := by simp; omega
  have HM := Lib.hid hm
  have HMM := Lib.hid hmost
  have hmc : (most : Int) ≤ 1000000 := by omega
  have hnn : ((n : Nat) : Int) ≤ most := by omega
  clear hm
  go_enter Try.func15, Try.ntmps15
  go_wp2_with fail
  refine (HR.out _).mono ?_
  rintro e' w1 ⟨rfl, hb1⟩
  have q0 : Whole (w.alloc (.cells #[.int .i64 s, .int .i64 0] 31)) w.heap.size 31 #[.int .i64 s, .int .i64 0] := Whole.new w 31 _ rfl
  have q1 := q0.below' hb1
  have c0 := q1.cell 0
  have c1 := q1.cell 1
  simp at c0 c1
  have HO1 := Lib.hid (own_below (World.ownsRow.alloc HO.out (.cells #[.int .i64 s, .int .i64 0] 31)) hb1)
  have HW1 := Lib.hid (((Below.refl base w).alloc hb (.cells #[.int .i64 s, .int .i64 0] 31)).trans (hb1.mono (by simp; omega)))
  clear q0 q1 hb1
  go_wp2
  go_quiet ((go_at_call 17; exact Calls.quiet_eq (HL.out _)))
  go_wp2
  go_loopw [0, 58] (fun o i wr => ∃ (j : Nat) (A2 : Option Addr) (c2 : Nat), j ≤ 1 ∧ i = .int .i64 (j : Nat) ∧ o = .slice A2 (n + j) c2 ∧ Hid (wr.ownsRow base 3 1 (.slice A2 (n + j) c2) (n + j) ((f ++ List.replicate j s).map (Value.int .i64))) ∧ Hid (Below base w wr)) (fun _ i _ => 1 - (intOf i).toNat)
  case atStart => exact ⟨0, A, c, Nat.zero_le _, rfl, rfl, Lib.hid (by simpa using own_drewN HO1.out nq), Lib.hid (HW1.out.drewN' _)⟩
  case round =>
    obtain ⟨j, A2, c2, hj, rfl, rfl, HO, HW⟩ := hrel
    by_cases hlt : j < 1
    · obtain ⟨m, hmj⟩ : ∃ m, n + j = m := ⟨_, rfl⟩
      rw [hmj] at HO ⊢
      have hmb : m ≤ 1000000 := by omega
      have HMJ := Lib.hid hmj
      clear hmj
      go_wp2_with (at_builtin; refine wpList_append_list _ rfl (.tmp 60) (.tmp 62) 22 rfl base 3 i0 (.int .i64 0) 1 8 Try.underlying22 hi hz0 hz1 hz2 rfl (by decide) _ m _ rfl (World.ownsRow.alloc HO.out _) _ (some ⟨wr.heap.size, 0, none⟩) 1 1 [.int .i64 s] rfl (Lst.new wr 3 #[.int .i64 s] 1 rfl rfl) (by simp [Value.oneCell']) (by unfold maxLen; omega) (by omega) (by have := HW.out.size; have := HBS.out; simp; omega) ?_)
      intro A4 c4 x4 hown4 hgrow4 hat4
      have HO4 : Hid (x4.ownsRow base 3 1 (.slice A4 (n + (j + 1)) c4) (n + (j + 1)) ((f ++ List.replicate (j + 1) s).map (Value.int .i64))) := by
        rw [show n + (j + 1) = m + 1 by have := HMJ.out; omega]
        exact Lib.hid (by simpa [List.replicate_succ'] using hown4)
      have HW4 := Lib.hid ((HW.out.alloc (by have := HW.out.size; have := HBS.out; omega) _).grown hgrow4 (by have := HW.out.size; have := HBS.out; simp; omega) (fun g e => (HO.out.lt g e).1))
      clear hown4 hgrow4 hat4
      go_wp2
      go_round
      case rel => exact ⟨j + 1, A4, c4, by omega, by go_num, by rw [show n + (j + 1) = m + 1 by have := HMJ.out; omega], HO4, HW4⟩
      case measure => simp [intOf]; omega
    · obtain rfl : j = 1 := by omega
      go_wp2
      go_ret2
      unfold Ext
      rw [List.length_append, List.length_replicate, HF.out]
      exact ⟨A2, c2, rfl, HO.out, HW.out⟩
set_option maxHeartbeats 1000000 in
theorem extend_b (base : Nat) (A : Option Addr) (n c most : Nat) (f : List Int) (e : Int) (he : 0 ≤ e ∧ e ≤ 3) (hne : 0 < n) (w : World) (hO : w.ownsRow base 3 1 (.slice A n c) n (f.map (Value.int .i64))) (hb : base ≤ w.heap.size) (hm : n + (3 + e.toNat) ≤ most) (hmost : most ≤ 1000000) :
    Calls Try.prog 15 #[.slice A n c, .agg #[.int .i64 16, .int .i64 e], .int .i64 (most : Nat)] w (Ext base (f ++ List.replicate (3 + e.toNat) (f.getD (n - 1) 0)) w) := by
  obtain ⟨i0, hi, hz0, hz1, hz2⟩ := info_parts info3
  simp only at hz0 hz1 hz2
  have hfl : f.length = n := by have := hO.1; simpa using this
  have hLI := (Lst.of_own hO)
  have hHO := hO
  obtain ⟨x, rfl⟩ := Int.eq_ofNat_of_zero_le he.1
  have hx : x ≤ 3 := by have := he.2; omega
  have HR := Lib.hid (fun w => right_b (x : Int) he w)
  have HL : Hid (∀ w, Calls Try.prog 17 #[.int .i64 16] w fun e w' => e = .returned (.int .i64 3) ∧ w = w') := Lib.hid (fun w => least_any 16 w)
  simp only [Int.toNat_natCast] at hm ⊢
  clear he
  obtain ⟨lb, lo, rfl, lbl, _, lc⟩ := hLI.int_at (i := n - 1) (by omega)
  obtain ⟨v, hv⟩ : ∃ v, f.getD (n - 1) 0 = v := ⟨_, rfl⟩
  obtain ⟨n1, rfl⟩ : ∃ n1, n = n1 + 1 := ⟨n - 1, by omega⟩
  rw [Nat.add_sub_cancel] at lc hv
  rw [hv] at lc
  rw [show n1 + 1 - 1 = n1 from rfl, hv]
  have z0 : ((n1 : Int) + 1 == 0) = false := by simp; omega
  clear hv hne
  have HF := Lib.hid hfl
  have HO := Lib.hid hHO
  have HBS := Lib.hid hb
  clear hO hHO hLI hfl
  obtain ⟨K, hK⟩ : ∃ K : Nat, 3 + x = K := ⟨_, rfl⟩
  rw [hK] at hm ⊢
  have e1 : IntKind.i64.wrap (3 + (x : Int)) = (K : Int) := by rw [IntWalk.i64_in _ (by omega)]; omega
  have m1 : decide ((most : Int) < (n1 + 1 : Nat)) = false := by simp; omega
  have m1' : decide (most < n1 + 1) = false := by simp; omega
  have m2 : decide ((most : Int) - (n1 + 1 : Nat) < (K : Int)) = false := by simp; omega
  have m3 : decide ((most : Int) - ((n1 + 1 : Nat) : Int) < (K : Int)) = false := by simp; omega
  have HM := Lib.hid hm
  have HMM := Lib.hid hmost
  have hmc : (most : Int) ≤ 1000000 := by omega
  have hnn : ((n1 + 1 : Nat) : Int) ≤ most := by omega
  clear hK
  go_enter Try.func15, Try.ntmps15
  go_wp2_with fail
  refine (HR.out _).mono ?_
  rintro e' w1 ⟨rfl, hb1⟩
  have q0 : Whole (w.alloc (.cells #[.int .i64 16, .int .i64 (x : Int)] 31)) w.heap.size 31 #[.int .i64 16, .int .i64 (x : Int)] := Whole.new w 31 _ rfl
  have q1 := q0.below' hb1
  have c0 := q1.cell 0
  have c1 := q1.cell 1
  simp at c0 c1
  have lc1 : w1.cell? ⟨lb, lo + n1, none⟩ = some (.int .i64 v) := (hb1.cell (p := ⟨lb, lo + n1, none⟩) (by simp; omega)).trans ((((Below.refl w.heap.size w).alloc (Nat.le_refl _) _).cell (p := ⟨lb, lo + n1, none⟩) lbl).trans lc)
  have HO1 := Lib.hid (own_below (World.ownsRow.alloc HO.out (.cells #[.int .i64 16, .int .i64 (x : Int)] 31)) hb1)
  have HW1 := Lib.hid (((Below.refl base w).alloc hb (.cells #[.int .i64 16, .int .i64 (x : Int)] 31)).trans (hb1.mono (by simp; omega)))
  clear q0 q1 hb1
  go_wp2
  go_quiet ((go_at_call 17; exact Calls.quiet_eq (HL.out _)))
  go_wp2
  go_loopw [0, 58] (fun o i wr => ∃ (j : Nat) (A2 : Option Addr) (c2 : Nat), j ≤ K ∧ i = .int .i64 (j : Nat) ∧ o = .slice A2 (n1 + 1 + j) c2 ∧ Hid (wr.ownsRow base 3 1 (.slice A2 (n1 + 1 + j) c2) (n1 + 1 + j) ((f ++ List.replicate j v).map (Value.int .i64))) ∧ Hid (Below base w wr)) (fun _ i _ => K - (intOf i).toNat)
  case atStart => exact ⟨0, (some ⟨lb, lo, none⟩), c, Nat.zero_le _, rfl, rfl, Lib.hid (by simpa using own_drewN HO1.out nq), Lib.hid (HW1.out.drewN' _)⟩
  case round =>
    obtain ⟨j, A2, c2, hj, rfl, rfl, HO, HW⟩ := hrel
    by_cases hlt : j < K
    · obtain ⟨m, hmj⟩ : ∃ m, n1 + 1 + j = m := ⟨_, rfl⟩
      rw [hmj] at HO ⊢
      have hmb : m ≤ 1000000 := by omega
      have HMJ := Lib.hid hmj
      clear hmj
      go_wp2_with (at_builtin; refine wpList_append_list _ rfl (.tmp 60) (.tmp 62) 22 rfl base 3 i0 (.int .i64 0) 1 8 Try.underlying22 hi hz0 hz1 hz2 rfl (by decide) _ m _ rfl (World.ownsRow.alloc HO.out _) _ (some ⟨wr.heap.size, 0, none⟩) 1 1 [.int .i64 v] rfl (Lst.new wr 3 #[.int .i64 v] 1 rfl rfl) (by simp [Value.oneCell']) (by unfold maxLen; omega) (by omega) (by have := HW.out.size; have := HBS.out; simp; omega) ?_)
      intro A4 c4 x4 hown4 hgrow4 hat4
      have HO4 : Hid (x4.ownsRow base 3 1 (.slice A4 (n1 + 1 + (j + 1)) c4) (n1 + 1 + (j + 1)) ((f ++ List.replicate (j + 1) v).map (Value.int .i64))) := by
        rw [show n1 + 1 + (j + 1) = m + 1 by have := HMJ.out; omega]
        exact Lib.hid (by simpa [List.replicate_succ'] using hown4)
      have HW4 := Lib.hid ((HW.out.alloc (by have := HW.out.size; have := HBS.out; omega) _).grown hgrow4 (by have := HW.out.size; have := HBS.out; simp; omega) (fun g e => (HO.out.lt g e).1))
      clear hown4 hgrow4 hat4
      go_wp2
      go_round
      case rel => exact ⟨j + 1, A4, c4, by omega, by go_num, by rw [show n1 + 1 + (j + 1) = m + 1 by have := HMJ.out; omega], HO4, HW4⟩
      case measure => simp [intOf]; omega
    · obtain rfl : j = K := by omega
      go_wp2
      go_ret2
      unfold Ext
      rw [List.length_append, List.length_replicate, HF.out]
      exact ⟨A2, c2, rfl, HO.out, HW.out⟩
set_option maxHeartbeats 1000000 in
theorem extend_c (base : Nat) (A : Option Addr) (n c most : Nat) (f : List Int) (e : Int) (he : 0 ≤ e ∧ e ≤ 7) (w : World) (hO : w.ownsRow base 3 1 (.slice A n c) n (f.map (Value.int .i64))) (hb : base ≤ w.heap.size) (hm : n + (3 + e.toNat) ≤ most) (hmost : most ≤ 1000000) :
    Calls Try.prog 15 #[.slice A n c, .agg #[.int .i64 17, .int .i64 e], .int .i64 (most : Nat)] w (Ext base (f ++ List.replicate (3 + e.toNat) 0) w) := by
  obtain ⟨i0, hi, hz0, hz1, hz2⟩ := info_parts info3
  simp only at hz0 hz1 hz2
  have hfl : f.length = n := by have := hO.1; simpa using this
  have hLI := (Lst.of_own hO)
  have hHO := hO
  obtain ⟨x, rfl⟩ := Int.eq_ofNat_of_zero_le he.1
  have hx : x ≤ 7 := by have := he.2; omega
  have HR := Lib.hid (fun w => right_c (x : Int) he w)
  have HL : Hid (∀ w, Calls Try.prog 17 #[.int .i64 17] w fun e w' => e = .returned (.int .i64 3) ∧ w = w') := Lib.hid (fun w => least_any 17 w)
  simp only [Int.toNat_natCast] at hm ⊢
  clear he
  have HF := Lib.hid hfl
  have HO := Lib.hid hHO
  have HBS := Lib.hid hb
  clear hO hHO hLI hfl
  obtain ⟨K, hK⟩ : ∃ K : Nat, 3 + x = K := ⟨_, rfl⟩
  rw [hK] at hm ⊢
  have e1 : IntKind.i64.wrap (3 + (x : Int)) = (K : Int) := by rw [IntWalk.i64_in _ (by omega)]; omega
  have m1 : decide ((most : Int) < (n : Nat)) = false := by simp; omega
  have m1' : decide (most < n) = false := by simp; omega
  have m2 : decide ((most : Int) - (n : Nat) < (K : Int)) = false := by simp; omega
  have m3 : decide ((most : Int) - ((n : Nat) : Int) < (K : Int)) = false := by simp; omega
  have HM := Lib.hid hm
  have HMM := Lib.hid hmost
  have hmc : (most : Int) ≤ 1000000 := by omega
  have hnn : ((n : Nat) : Int) ≤ most := by omega
  clear hK
  go_enter Try.func15, Try.ntmps15
  go_wp2_with fail
  refine (HR.out _).mono ?_
  rintro e' w1 ⟨rfl, hb1⟩
  have q0 : Whole (w.alloc (.cells #[.int .i64 17, .int .i64 (x : Int)] 31)) w.heap.size 31 #[.int .i64 17, .int .i64 (x : Int)] := Whole.new w 31 _ rfl
  have q1 := q0.below' hb1
  have c0 := q1.cell 0
  have c1 := q1.cell 1
  simp at c0 c1
  have HO1 := Lib.hid (own_below (World.ownsRow.alloc HO.out (.cells #[.int .i64 17, .int .i64 (x : Int)] 31)) hb1)
  have HW1 := Lib.hid (((Below.refl base w).alloc hb (.cells #[.int .i64 17, .int .i64 (x : Int)] 31)).trans (hb1.mono (by simp; omega)))
  clear q0 q1 hb1
  go_wp2
  go_quiet ((go_at_call 17; exact Calls.quiet_eq (HL.out _)))
  go_wp2
  go_loopw [0, 58] (fun o i wr => ∃ (j : Nat) (A2 : Option Addr) (c2 : Nat), j ≤ K ∧ i = .int .i64 (j : Nat) ∧ o = .slice A2 (n + j) c2 ∧ Hid (wr.ownsRow base 3 1 (.slice A2 (n + j) c2) (n + j) ((f ++ List.replicate j 0).map (Value.int .i64))) ∧ Hid (Below base w wr)) (fun _ i _ => K - (intOf i).toNat)
  case atStart => exact ⟨0, A, c, Nat.zero_le _, rfl, rfl, Lib.hid (by simpa using own_drewN HO1.out nq), Lib.hid (HW1.out.drewN' _)⟩
  case round =>
    obtain ⟨j, A2, c2, hj, rfl, rfl, HO, HW⟩ := hrel
    by_cases hlt : j < K
    · obtain ⟨m, hmj⟩ : ∃ m, n + j = m := ⟨_, rfl⟩
      rw [hmj] at HO ⊢
      have hmb : m ≤ 1000000 := by omega
      have HMJ := Lib.hid hmj
      clear hmj
      go_wp2_with (at_builtin; refine wpList_append_list _ rfl (.tmp 60) (.tmp 62) 22 rfl base 3 i0 (.int .i64 0) 1 8 Try.underlying22 hi hz0 hz1 hz2 rfl (by decide) _ m _ rfl (World.ownsRow.alloc HO.out _) _ (some ⟨wr.heap.size, 0, none⟩) 1 1 [.int .i64 0] rfl (Lst.new wr 3 #[.int .i64 0] 1 rfl rfl) (by simp [Value.oneCell']) (by unfold maxLen; omega) (by omega) (by have := HW.out.size; have := HBS.out; simp; omega) ?_)
      intro A4 c4 x4 hown4 hgrow4 hat4
      have HO4 : Hid (x4.ownsRow base 3 1 (.slice A4 (n + (j + 1)) c4) (n + (j + 1)) ((f ++ List.replicate (j + 1) 0).map (Value.int .i64))) := by
        rw [show n + (j + 1) = m + 1 by have := HMJ.out; omega]
        exact Lib.hid (by simpa [List.replicate_succ'] using hown4)
      have HW4 := Lib.hid ((HW.out.alloc (by have := HW.out.size; have := HBS.out; omega) _).grown hgrow4 (by have := HW.out.size; have := HBS.out; simp; omega) (fun g e => (HO.out.lt g e).1))
      clear hown4 hgrow4 hat4
      go_wp2
      go_round
      case rel => exact ⟨j + 1, A4, c4, by omega, by go_num, by rw [show n + (j + 1) = m + 1 by have := HMJ.out; omega], HO4, HW4⟩
      case measure => simp [intOf]; omega
    · obtain rfl : j = K := by omega
      go_wp2
      go_ret2
      unfold Ext
      rw [List.length_append, List.length_replicate, HF.out]
      exact ⟨A2, c2, rfl, HO.out, HW.out⟩
set_option maxHeartbeats 1000000 in
theorem extend_d (base : Nat) (A : Option Addr) (n c most : Nat) (f : List Int) (e : Int) (he : 0 ≤ e ∧ e ≤ 127) (w : World) (hO : w.ownsRow base 3 1 (.slice A n c) n (f.map (Value.int .i64))) (hb : base ≤ w.heap.size) (hm : n + (11 + e.toNat) ≤ most) (hmost : most ≤ 1000000) :
    Calls Try.prog 15 #[.slice A n c, .agg #[.int .i64 18, .int .i64 e], .int .i64 (most : Nat)] w (Ext base (f ++ List.replicate (11 + e.toNat) 0) w) := by
  obtain ⟨i0, hi, hz0, hz1, hz2⟩ := info_parts info3
  simp only at hz0 hz1 hz2
  have hfl : f.length = n := by have := hO.1; simpa using this
  have hLI := (Lst.of_own hO)
  have hHO := hO
  obtain ⟨x, rfl⟩ := Int.eq_ofNat_of_zero_le he.1
  have hx : x ≤ 127 := by have := he.2; omega
  have HR := Lib.hid (fun w => right_d (x : Int) he w)
  have HL : Hid (∀ w, Calls Try.prog 17 #[.int .i64 18] w fun e w' => e = .returned (.int .i64 11) ∧ w = w') := Lib.hid (fun w => least_any 18 w)
  simp only [Int.toNat_natCast] at hm ⊢
  clear he
  have HF := Lib.hid hfl
  have HO := Lib.hid hHO
  have HBS := Lib.hid hb
  clear hO hHO hLI hfl
  obtain ⟨K, hK⟩ : ∃ K : Nat, 11 + x = K := ⟨_, rfl⟩
  rw [hK] at hm ⊢
  have e1 : IntKind.i64.wrap (11 + (x : Int)) = (K : Int) := by rw [IntWalk.i64_in _ (by omega)]; omega
  have m1 : decide ((most : Int) < (n : Nat)) = false := by simp; omega
  have m1' : decide (most < n) = false := by simp; omega
  have m2 : decide ((most : Int) - (n : Nat) < (K : Int)) = false := by simp; omega
  have m3 : decide ((most : Int) - ((n : Nat) : Int) < (K : Int)) = false := by simp; omega
  have HM := Lib.hid hm
  have HMM := Lib.hid hmost
  have hmc : (most : Int) ≤ 1000000 := by omega
  have hnn : ((n : Nat) : Int) ≤ most := by omega
  clear hK
  go_enter Try.func15, Try.ntmps15
  go_wp2_with fail
  refine (HR.out _).mono ?_
  rintro e' w1 ⟨rfl, hb1⟩
  have q0 : Whole (w.alloc (.cells #[.int .i64 18, .int .i64 (x : Int)] 31)) w.heap.size 31 #[.int .i64 18, .int .i64 (x : Int)] := Whole.new w 31 _ rfl
  have q1 := q0.below' hb1
  have c0 := q1.cell 0
  have c1 := q1.cell 1
  simp at c0 c1
  have HO1 := Lib.hid (own_below (World.ownsRow.alloc HO.out (.cells #[.int .i64 18, .int .i64 (x : Int)] 31)) hb1)
  have HW1 := Lib.hid (((Below.refl base w).alloc hb (.cells #[.int .i64 18, .int .i64 (x : Int)] 31)).trans (hb1.mono (by simp; omega)))
  clear q0 q1 hb1
  go_wp2
  go_quiet ((go_at_call 17; exact Calls.quiet_eq (HL.out _)))
  go_wp2
  go_loopw [0, 58] (fun o i wr => ∃ (j : Nat) (A2 : Option Addr) (c2 : Nat), j ≤ K ∧ i = .int .i64 (j : Nat) ∧ o = .slice A2 (n + j) c2 ∧ Hid (wr.ownsRow base 3 1 (.slice A2 (n + j) c2) (n + j) ((f ++ List.replicate j 0).map (Value.int .i64))) ∧ Hid (Below base w wr)) (fun _ i _ => K - (intOf i).toNat)
  case atStart => exact ⟨0, A, c, Nat.zero_le _, rfl, rfl, Lib.hid (by simpa using own_drewN HO1.out nq), Lib.hid (HW1.out.drewN' _)⟩
  case round =>
    obtain ⟨j, A2, c2, hj, rfl, rfl, HO, HW⟩ := hrel
    by_cases hlt : j < K
    · obtain ⟨m, hmj⟩ : ∃ m, n + j = m := ⟨_, rfl⟩
      rw [hmj] at HO ⊢
      have hmb : m ≤ 1000000 := by omega
      have HMJ := Lib.hid hmj
      clear hmj
      go_wp2_with (at_builtin; refine wpList_append_list _ rfl (.tmp 60) (.tmp 62) 22 rfl base 3 i0 (.int .i64 0) 1 8 Try.underlying22 hi hz0 hz1 hz2 rfl (by decide) _ m _ rfl (World.ownsRow.alloc HO.out _) _ (some ⟨wr.heap.size, 0, none⟩) 1 1 [.int .i64 0] rfl (Lst.new wr 3 #[.int .i64 0] 1 rfl rfl) (by simp [Value.oneCell']) (by unfold maxLen; omega) (by omega) (by have := HW.out.size; have := HBS.out; simp; omega) ?_)
      intro A4 c4 x4 hown4 hgrow4 hat4
      have HO4 : Hid (x4.ownsRow base 3 1 (.slice A4 (n + (j + 1)) c4) (n + (j + 1)) ((f ++ List.replicate (j + 1) 0).map (Value.int .i64))) := by
        rw [show n + (j + 1) = m + 1 by have := HMJ.out; omega]
        exact Lib.hid (by simpa [List.replicate_succ'] using hown4)
      have HW4 := Lib.hid ((HW.out.alloc (by have := HW.out.size; have := HBS.out; omega) _).grown hgrow4 (by have := HW.out.size; have := HBS.out; simp; omega) (fun g e => (HO.out.lt g e).1))
      clear hown4 hgrow4 hat4
      go_wp2
      go_round
      case rel => exact ⟨j + 1, A4, c4, by omega, by go_num, by rw [show n + (j + 1) = m + 1 by have := HMJ.out; omega], HO4, HW4⟩
      case measure => simp [intOf]; omega
    · obtain rfl : j = K := by omega
      go_wp2
      go_ret2
      unfold Ext
      rw [List.length_append, List.length_replicate, HF.out]
      exact ⟨A2, c2, rfl, HO.out, HW.out⟩
end Go.Proofs.Ytfoefncmfmfgeaa
