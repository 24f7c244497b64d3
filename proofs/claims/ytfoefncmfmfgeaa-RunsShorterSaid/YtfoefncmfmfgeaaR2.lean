/- repeated, equal, Pack. -/
import Derived.Test.YtfoefncmfmfgeaaR1
namespace Go.Proofs.Ytfoefncmfmfgeaa
open Go.RowKit

theorem own_new (w : World) (base : Nat) (e : TypeId) (size n : Nat) (cs : Array Value) (hb : base ≤ w.heap.size) (hs : cs.size = n * size) (hm : n ≤ maxLen) :
    (w.alloc (.cells cs e)).ownsRow base e size (.slice (some ⟨w.heap.size, 0, none⟩) n n) n cs.toList :=
  ⟨by simpa using hs, .inr ⟨w.heap.size, n, cs, rfl, hb, heap_alloc_new w _, Nat.le_refl _, hm, hs, by rw [List.take_of_length_le]; simp; omega⟩⟩
def Fac (v : Int) : Prop := 1 ≤ v ∧ v ≤ 15
theorem runN_one (v : Int) (h : v ≤ 15) (e : Int) : runN v e = 1 := by unfold runN; rw [if_neg (by omega), if_neg (by omega), if_neg (by omega)]
set_option maxHeartbeats 2000000 in
theorem repeated_any (v : Int) (n : Nat) (w : World) (hn : n ≤ 1000000) (h1 : 1 ≤ n) (hv : Fac v) : Calls Try.prog 13 #[.int .i64 v, .int .i64 (n : Nat)] w (Zs v n w) := by
  obtain ⟨i0, hi, hz0, hz1, hz2⟩ := info_parts info31
  simp only at hz0 hz1 hz2
  have HV := Lib.hid hv
  have b1 : 0 ≤ v := by have := hv.1; omega
  have b2 : v ≤ 15 := hv.2
  have L16 : Hid (∀ w, Calls Try.prog 17 #[.int .i64 16] w fun e w' => e = .returned (.int .i64 3) ∧ w = w') := Lib.hid (fun w => least_any 16 w)
  have LV : Hid (∀ w, Calls Try.prog 17 #[.int .i64 v] w fun e w' => e = .returned (.int .i64 1) ∧ w = w') := Lib.hid (fun w => by
    have := least_any v w
    rwa [runN_one v hv.2] at this)
  have HT0 : Hid (Tell v 1 [(v, 0)]) := Lib.hid (fun f => by
    refine ⟨⟨.inl ⟨by have := hv.1; simp only; omega, hv.2, rfl⟩, trivial⟩, ?_⟩
    simp only [runL, app]
    rw [runN_one v hv.2]
    unfold runV
    rw [if_pos (by have := hv.2; omega)])
  clear hv
  have HN : Hid (1 ≤ n) := Lib.hid h1
  go_enter Try.func13, Try.ntmps13
  go_wp2
  go_loopw [1, 5] (fun nn o wr => ∃ (k m j : Nat) (A2 : Option Addr) (c2 : Nat) (l : List (Int × Int)), k + j = n ∧ nn = .int .i64 (k : Nat) ∧ o = .slice A2 m c2 ∧ Hid (wr.ownsRow w.heap.size 31 2 (.slice A2 m c2) m (flat2 l)) ∧ Hid (Tell v j l) ∧ m ≤ j ∧ 1 ≤ j ∧ Hid (Below w.heap.size w wr)) (fun nn _ _ => (intOf nn).toNat)
  case atStart => exact ⟨n - 1, 1, 1, some ⟨w.heap.size, 0, none⟩, 1, [(v, 0)], by omega, by go_num, rfl, Lib.hid (own_new w w.heap.size 31 2 1 #[.int .i64 v, .int .i64 0] (Nat.le_refl _) rfl (by unfold maxLen; omega)), HT0, by omega, by omega, Lib.hid ((Below.refl _ _).alloc (Nat.le_refl _) _)⟩
  case round =>
    obtain ⟨k, m, j, A2, c2, l, hkj, rfl, rfl, HO, HT, hmj, hj1, HW⟩ := hrel
    by_cases hk : 0 < k
    · have hd : decide (0 < k) = true := by simpa using hk
      by_cases h3 : 3 ≤ k
      · have hd3 : decide (3 ≤ k) = true := by simpa using h3
        have hd3' : decide ((3 : Int) ≤ (k : Int)) = true := by simp; omega
        obtain ⟨x, hx⟩ : ∃ x : Nat, min (k - 3) 3 = x := ⟨_, rfl⟩
        have hmin : (if (3 : Int) < (k : Int) - 3 then (3 : Int) else (k : Int) - 3) = (x : Int) := by rw [← hx]; split <;> omega
        have hxb : x ≤ 3 ∧ x + 3 ≤ k := by omega
        obtain ⟨hxb1, hxb2⟩ := hxb
        clear hx
        go_wp2_with fail
        refine (L16.out _).mono ?_
        rintro e wx ⟨rfl, rfl⟩
        go_wp2_with fail
        refine (L16.out _).mono ?_
        rintro e wx ⟨rfl, rfl⟩
        go_wp2_with (at_builtin; refine wpList_append_list _ rfl (.tmp 24) (.tmp 26) 24 rfl w.heap.size 31 i0 (.agg #[.int .i64 0, .int .i64 0]) 2 16 Try.underlying24 hi hz0 hz1 hz2 rfl (by decide) _ m _ rfl (World.ownsRow.alloc (World.ownsRow.alloc HO.out _) _) _ (some ⟨wr.heap.size + 1, 0, none⟩) 1 1 [.int .i64 16, .int .i64 (x : Int)] rfl (Lst.new (size := 2) (wr.alloc (.cells #[.int .i64 16, .int .i64 (x : Int)] 31)) 31 #[.int .i64 16, .int .i64 (x : Int)] 1 rfl (by simp)) (by simp [Value.oneCell']) (by unfold maxLen; omega) (by omega) (by have := HW.out.size; simp; omega) ?_)
        intro A4 c4 x4 hown4 hgrow4 hat4
        have HO4 : Hid (x4.ownsRow w.heap.size 31 2 (.slice A4 (m + 1) c4) (m + 1) (flat2 (l ++ [(16, (x : Int))]))) := by
          rw [flat2_snoc]
          exact Lib.hid hown4
        have HW4 := Lib.hid (((HW.out.alloc HW.out.size (.cells #[.int .i64 16, .int .i64 (x : Int)] 31)).alloc (by have := HW.out.size; simp; omega) (.cells #[.int .i64 16, .int .i64 (x : Int)] 31)).grown hgrow4 (by have := HW.out.size; simp; omega) (fun g e => (HO.out.lt g e).1))
        have hR4 : Whole x4 wr.heap.size 31 #[.int .i64 16, .int .i64 (x : Int)] := ((Whole.new wr 31 #[.int .i64 16, .int .i64 (x : Int)] rfl).alloc _).grown hgrow4 (fun e => by have := (HO.out.lt _ e.symm).2; omega)
        have c0 := hR4.cell 0
        have c1 := hR4.cell 1
        simp at c0 c1
        clear hown4 hgrow4 hat4 hR4
        obtain ⟨y, hy⟩ : ∃ y : Nat, 3 + x = y := ⟨_, rfl⟩
        obtain ⟨k', hk'⟩ : ∃ k' : Nat, k - y = k' := ⟨_, rfl⟩
        have hyk : y ≤ k := by omega
        have e1 : IntKind.i64.wrap (3 + (x : Int)) = (y : Int) := by rw [IntWalk.i64_in _ (by omega)]; omega
        have e2 : IntKind.i64.wrap ((k : Int) - (y : Int)) = (k' : Int) := by rw [IntWalk.i64_in _ (by omega)]; omega
        have HYK : Hid (k' + y = k) := Lib.hid (by omega)
        have HY := Lib.hid hy
        clear hy hk'
        go_wp2
        go_quiet ((go_at_call 17; exact Calls.quiet_eq (L16.out _)))
        go_wp2
        go_round
        case rel =>
          have hy := HY.out
          have hyk2 := HYK.out
          refine ⟨k', m + 1, j + y, A4, c4, l ++ [(16, (x : Int))], by omega, by first | rfl | (congr 1; omega), rfl, Lib.hid HO4.out, Lib.hid ?_, by omega, by omega, Lib.hid (HW4.out.drewN' _)⟩
          have := HT.out.snoc (16, (x : Int)) (fun f => .inr (.inl ⟨rfl, by simp, by simp only; omega, by simp; omega⟩)) (fun f => by unfold runV; rw [if_neg (by simp), if_pos rfl]; exact getD_last f v j (by omega))
          rw [show runN (16, (x : Int)).1 (16, (x : Int)).2 = y from by simp [runN]; omega] at this
          exact this
        case measure =>
          have hy := HY.out
          have hyk2 := HYK.out
          simp [intOf]; omega
      · have hd3 : decide (3 ≤ k) = false := by simpa using h3
        have hd3' : decide ((3 : Int) ≤ (k : Int)) = false := by simp; omega
        go_wp2_with fail
        refine (L16.out _).mono ?_
        rintro e wx ⟨rfl, rfl⟩
        go_wp2_with (at_builtin; refine wpList_append_list _ rfl (.tmp 24) (.tmp 26) 24 rfl w.heap.size 31 i0 (.agg #[.int .i64 0, .int .i64 0]) 2 16 Try.underlying24 hi hz0 hz1 hz2 rfl (by decide) _ m _ rfl (World.ownsRow.alloc (World.ownsRow.alloc HO.out _) _) _ (some ⟨wr.heap.size + 1, 0, none⟩) 1 1 [.int .i64 v, .int .i64 0] rfl (Lst.new (size := 2) (wr.alloc (.cells #[.int .i64 v, .int .i64 0] 31)) 31 #[.int .i64 v, .int .i64 0] 1 rfl (by simp)) (by simp [Value.oneCell']) (by unfold maxLen; omega) (by omega) (by have := HW.out.size; simp; omega) ?_)
        intro A4 c4 x4 hown4 hgrow4 hat4
        have HO4 : Hid (x4.ownsRow w.heap.size 31 2 (.slice A4 (m + 1) c4) (m + 1) (flat2 (l ++ [(v, 0)]))) := by
          rw [flat2_snoc]
          exact Lib.hid hown4
        have HW4 := Lib.hid (((HW.out.alloc HW.out.size (.cells #[.int .i64 v, .int .i64 0] 31)).alloc (by have := HW.out.size; simp; omega) (.cells #[.int .i64 v, .int .i64 0] 31)).grown hgrow4 (by have := HW.out.size; simp; omega) (fun g e => (HO.out.lt g e).1))
        have hR4 : Whole x4 wr.heap.size 31 #[.int .i64 v, .int .i64 0] := ((Whole.new wr 31 #[.int .i64 v, .int .i64 0] rfl).alloc _).grown hgrow4 (fun e => by have := (HO.out.lt _ e.symm).2; omega)
        have c0 := hR4.cell 0
        have c1 := hR4.cell 1
        simp at c0 c1
        clear hown4 hgrow4 hat4 hR4
        obtain ⟨y, hy⟩ : ∃ y : Nat, 1 + 0 = y := ⟨_, rfl⟩
        obtain ⟨k', hk'⟩ : ∃ k' : Nat, k - y = k' := ⟨_, rfl⟩
        have hyk : y ≤ k := by omega
        have e1 : IntKind.i64.wrap (1 + 0) = (y : Int) := by rw [IntWalk.i64_in _ (by omega)]; omega
        have e2 : IntKind.i64.wrap ((k : Int) - (y : Int)) = (k' : Int) := by rw [IntWalk.i64_in _ (by omega)]; omega
        have HYK : Hid (k' + y = k) := Lib.hid (by omega)
        have HY := Lib.hid hy
        clear hy hk'
        go_wp2
        go_quiet ((go_at_call 17; exact Calls.quiet_eq (LV.out _)))
        go_wp2
        go_round
        case rel =>
          have hy := HY.out
          have hyk2 := HYK.out
          refine ⟨k', m + 1, j + y, A4, c4, l ++ [(v, 0)], by omega, by first | rfl | (congr 1; omega), rfl, Lib.hid HO4.out, Lib.hid ?_, by omega, by omega, Lib.hid (HW4.out.drewN' _)⟩
          have := HT.out.snoc (v, 0) (fun f => .inl ⟨b1, b2, rfl⟩) (fun f => by unfold runV; rw [if_pos (by simp only; omega)])
          rw [show runN (v, 0).1 (v, 0).2 = y from by rw [runN_one _ b2]; omega] at this
          exact this
        case measure =>
          have hy := HY.out
          have hyk2 := HYK.out
          simp [intOf]; omega
    · obtain rfl : k = 0 := by omega
      obtain rfl : j = n := by omega
      go_wp2
      go_ret
      exact ⟨A2, m, c2, l, rfl, HO.out, HT.out, hmj, fun h => by have := HV.out.1; omega, HW.out⟩
def Eqs (ys : List Int) (g : Nat) : Prop := 1 ≤ g ∧ g ≤ ys.length ∧ (∀ i, i < g → ys.getD i 0 = ys.getD 0 0) ∧ (g < ys.length → ys.getD g 0 ≠ ys.getD 0 0)
def EqP (ys : List Int) (w : World) (e : Ending) (w' : World) : Prop := ∃ g : Nat, e = .returned (.int .i64 (g : Nat)) ∧ Eqs ys g ∧ Below w.heap.size w w'
set_option maxHeartbeats 1000000 in
theorem equal_any (A : Option Addr) (n c : Nat) (ys : List Int) (S : Nat → Prop) (w : World) (hL : Lst w S 1 A n (ys.map (Value.int .i64))) (h1 : 1 ≤ n) (hn : n ≤ 1000000) :
    Calls Try.prog 11 #[.slice A n c] w (EqP ys w) := by
  have hl : ys.length = n := by have := hL.len; simpa using this
  subst hl
  have HL := Lib.hid hL
  obtain ⟨b, off, rfl, _, _, c0⟩ := hL.int_at (i := 0) (by omega)
  rw [Nat.add_zero] at c0
  obtain ⟨v, hv⟩ : ∃ v, ys.getD 0 0 = v := ⟨_, rfl⟩
  rw [hv] at c0
  have HV := Lib.hid hv
  clear hL hv
  go_enter Try.func11, Try.ntmps11
  go_wp2
  go_loopw [3] (fun i wr => ∃ k : Nat, 1 ≤ k ∧ k ≤ ys.length ∧ i = .int .i64 (k : Nat) ∧ Hid (∀ i, i < k → ys.getD i 0 = v) ∧ ∃ d, wr = w.drewN d) (fun i _ => ys.length - (intOf i).toNat)
  case atStart => exact ⟨1, by omega, h1, rfl, Lib.hid (fun i hi => by rw [show i = 0 by omega]; exact HV.out), 0, rfl⟩
  case round =>
    obtain ⟨k, hk1, hk, rfl, HE, d, rfl⟩ := hrel
    have h0 : 0 < ys.length := by omega
    by_cases hlt : k < ys.length
    · have hd : decide (k < ys.length) = true := by simpa using hlt
      obtain ⟨b', off', h', _, _, c1⟩ := HL.out.int_at hlt
      injection h' with h'
      injection h' with q1 q2 _
      subst q1 q2
      by_cases hv : ys.getD k 0 = v
      · have HK := Lib.hid hv
        rw [hv] at c1
        clear hv
        go_wp2
        go_quiet (fail)
        go_wp2
        go_round
        case rel => exact ⟨k + 1, by omega, by omega, by go_num, Lib.hid (fun i hi => by
          by_cases e : i = k
          · subst e; exact HK.out
          · exact HE.out i (by omega)), d + nq, by first | rfl | simp⟩
        case measure => simp [intOf]; omega
      · have x1 : (ys.getD k 0 == v) = false := by simpa using hv
        have HK := Lib.hid hv
        generalize hu : ys.getD k 0 = u at c1 x1
        have HU := Lib.hid hu
        clear hu hv
        go_wp2
        go_quiet (fail)
        go_wp2
        go_ret
        refine ⟨k, rfl, ⟨hk1, hk, ?_, ?_⟩, ((Below.refl _ _).drewN' _).drewN' _⟩
        · intro i hi
          rw [HE.out i hi, HV.out]
        · intro _
          rw [HV.out]
          exact HK.out
    · have hd : decide (k < ys.length) = false := by simpa using hlt
      go_wp2
      go_quiet (fail)
      go_wp2
      go_ret
      refine ⟨k, rfl, ⟨hk1, hk, ?_, fun h => absurd h hlt⟩, ((Below.refl _ _).drewN' _).drewN' _⟩
      intro i hi
      rw [HE.out i hi, HV.out]
end Go.Proofs.Ytfoefncmfmfgeaa
