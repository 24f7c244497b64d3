/- The example; RunsBack, RunsShorter. -/
import Derived.Test.YtfoefncmfmfgeaaR5
import Derived.Lib.SliceRun
namespace Go.Proofs.Ytfoefncmfmfgeaa
open Go.RowKit

set_option maxHeartbeats 1000000 in
theorem ints_eq (A B : Option Addr) (n c d : Nat) (ns : List Int) (S T : Nat → Prop) (w : World) (hL : Lst w S 1 A n (ns.map (Value.int .i64))) (hM : Lst w T 1 B n (ns.map (Value.int .i64))) (hl : n ≤ 100000000) :
    Calls Try.prog 9 #[.slice A n c, .slice B n d] w fun e w' => e = .returned (.bool true) ∧ Below w.heap.size w w' := by
  have hn : ns.length = n := by have := hL.len; simpa using this
  subst hn
  have HL := Lib.hid hL
  have HM := Lib.hid hM
  clear hL hM
  go_enter Try.func9, Try.ntmps9
  go_wp2
  go_loopw [5] (fun i wr => ∃ k : Nat, k ≤ ns.length ∧ i = .int .i64 (k : Nat) ∧ ∃ d, wr = w.drewN d) (fun i _ => ns.length - (intOf i).toNat)
  case atStart => exact ⟨0, Nat.zero_le _, rfl, 0, rfl⟩
  case round =>
    obtain ⟨k, hk, rfl, q, rfl⟩ := hrel
    by_cases hlt : k < ns.length
    · obtain ⟨b, off, rfl, _, _, hc⟩ := HL.out.int_at hlt
      obtain ⟨b2, off2, rfl, _, _, hc2⟩ := HM.out.int_at hlt
      generalize ns.getD k 0 = v at *
      go_wp2
      go_quiet (fail)
      go_wp2
      exact ⟨⟨k + 1, by omega, by go_num, q + nq, by first | rfl | simp⟩, by simp [intOf]; omega⟩
    · go_wp2
      go_ret
      exact ⟨rfl, (Below.refl _ _).drewN' _⟩
theorem own_base {w : World} {base base' size n : Nat} {e : TypeId} {v : Value} {xs : List Value} (h : w.ownsRow base e size v n xs) (hb : base' ≤ base) : w.ownsRow base' e size v n xs := by
  obtain ⟨h1, h2⟩ := h
  refine ⟨h1, ?_⟩
  rcases h2 with h3 | ⟨g, cap, cur, hv, hb', x⟩
  · exact .inl h3
  · exact .inr ⟨g, cap, cur, hv, Nat.le_trans hb hb', x⟩
def Cln (g : List Int) (w : World) (e : Ending) (w' : World) : Prop :=
  ∃ A' c', e = .returned (.slice A' g.length c') ∧ w'.ownsRow w.heap.size 3 1 (.slice A' g.length c') g.length (g.map (Value.int .i64)) ∧ Below w.heap.size w w'
theorem clone_any (b off n c : Nat) (f : List Int) (S : Nat → Prop) (w : World) (hL : Lst w S 1 (some ⟨b, off, none⟩) n (f.map (Value.int .i64))) (hl : n ≤ 1000000) : Calls Try.prog 16 #[.slice (some ⟨b, off, none⟩) n c] w (Cln f w) := by
  obtain ⟨i0, hi, hz0, hz1, hz2⟩ := info_parts info3
  simp only at hz0 hz1 hz2
  have hn : f.length = n := by have := hL.len; simpa using this
  subst hn
  have HL := Lib.hid hL
  have eq := fun (w : World) => Lib.run_eql_slice_nil (P := Try.prog) w 22 3 (some ⟨b, off, none⟩) f.length c 0 0 Try.underlying22
  clear hL
  go_enter Try.func16, Try.ntmps16
  go_wp2_with (at_builtin; refine wpList_append_list _ rfl (.tmp 5) (.tmp 6) 22 rfl w.heap.size 3 i0 (.int .i64 0) 1 8 Try.underlying22 hi hz0 hz1 hz2 rfl (by decide) (.slice (some ⟨w.heap.size, 0, none⟩) 0 0) 0 [] rfl (World.ownsRow_made w #[] 0 (Nat.le_refl _) (by unfold maxLen; omega) rfl) _ (some ⟨b, off, none⟩) f.length c _ rfl (Lst.alloc HL.out _) oneCell_ints (by unfold maxLen; omega) (by omega) (by simp) ?_)
  intro A3 c3 x3 hown3 hgrow3 hat3
  have HW3 := Lib.hid (((Below.refl w.heap.size w).alloc (Nat.le_refl _) (.cells #[] 3)).grown hgrow3 (by simp) (fun g e => by simp [Value.ownBlock] at e; omega))
  have HO3 : Hid (x3.ownsRow w.heap.size 3 1 (.slice A3 f.length c3) f.length (f.map (Value.int .i64))) := Lib.hid (by simpa using hown3)
  clear hown3 hgrow3 hat3
  go_wp2
  go_ret
  exact ⟨A3, c3, rfl, HO3.out, HW3.out⟩
def AddP (g : List Int) (w : World) (e : Ending) (w' : World) : Prop :=
  ∃ A' c', e = .returned (.tuple #[.slice A' g.length c', .int .i64 0]) ∧ w'.ownsRow w.heap.size 3 1 (.slice A' g.length c') g.length (g.map (Value.int .i64)) ∧ Below w.heap.size w w'
set_option maxHeartbeats 1000000 in
theorem add_any (b off n c most : Nat) (f : List Int) (s e : Int) (S : Nat → Prop) (w : World) (hL : Lst w S 1 (some ⟨b, off, none⟩) n (f.map (Value.int .i64))) (hok : okR f s e) (hm : (app f (s, e)).length ≤ most) (hmost : most ≤ 1000000) (hl : n ≤ 1000000) :
    Calls Try.prog 10 #[.slice (some ⟨b, off, none⟩) n c, .agg #[.int .i64 s, .int .i64 e], .int .i64 (most : Nat)] w (AddP (app f (s, e)) w) := by
  have hn : f.length = n := by have := hL.len; simpa using this
  subst hn
  obtain ⟨g, hg⟩ : ∃ g, app f (s, e) = g := ⟨_, rfl⟩
  have HL := Lib.hid hL
  have HK := Lib.hid hok
  have HM := Lib.hid hm
  have HG := Lib.hid hg
  rw [hg]
  clear hL hok hm hg
  go_enter Try.func10, Try.ntmps10
  go_wp2
  go_region_law (first
    | (try go_simp
       go_at_call 16
       go_loud (refine (clone_any b off f.length c f S _ (show Lst ((w.alloc (.cells #[.int .i64 s, .int .i64 e] 31)).drew) S 1 (some ⟨b, off, none⟩) f.length (f.map (Value.int .i64)) from (Lst.alloc HL.out _)) hl).mono ?_)
       rintro e' w1 ⟨A1, c1, rfl, ho1, hb1⟩
       have hq1 : Whole w1 w.heap.size 31 #[.int .i64 s, .int .i64 e] := (Whole.new w 31 #[.int .i64 s, .int .i64 e] rfl).drew.below' hb1
       have z0 := hq1.cell 0
       have z1 := hq1.cell 1
       simp at z0 z1
       go_loud (have HO1 : Hid (w1.ownsRow (w.heap.size + 1) 3 1 (.slice A1 f.length c1) f.length (f.map (Value.int .i64))) := Lib.hid (by simpa using ho1))
       have HB1 : Hid (Below w.heap.size w w1) := Lib.hid ((((Below.refl w.heap.size w).alloc (Nat.le_refl _) (.cells #[.int .i64 s, .int .i64 e] 31)).drew).trans (hb1.mono (by simp)))
       clear ho1 hb1 hq1)
    | (try go_simp
       go_at_call 15
       refine (extend_any w.heap.size A1 f.length c1 most f s e w1 (own_base HO1.out (by omega)) HB1.out.size HK.out HM.out hmost).mono ?_
       rw [HG.out]
       rintro e' w2 ⟨A2, c2, rfl, ho2, hb2⟩
       have HO2 := Lib.hid ho2
       have HB2 := Lib.hid (HB1.out.trans hb2)
       clear ho2 hb2))
  all_goals
    go_wp2
    go_ret2
    exact ⟨A2, c2, rfl, HO2.out, HB2.out⟩
theorem app_ex : app [7] (16, 0) = [7, 7, 7, 7] := by decide
theorem awake_any (w : World) : Calls Try.prog 5 #[] w fun e w' => e = .returned (.bool true) ∧ Below w.heap.size w w' := by
  go_enter Try.func5, Try.ntmps5
  go_wp2_with fail
  have h := add_any w.heap.size 0 1 1 9 [7] 16 0 _ _ (Lst.new (size := 1) w 3 #[.int .i64 7] 1 rfl (fr := (0, 0)) rfl) (.inr (.inl ⟨rfl, by omega, by omega, by simp⟩)) (by rw [app_ex]; simp) (by omega) (by omega)
  rw [app_ex] at h
  refine h.mono ?_
  rintro e w1 ⟨A1, c1, rfl, ho, hb⟩
  have HB := Lib.hid (((Below.refl w.heap.size w).alloc (Nat.le_refl _) (.cells #[.int .i64 7] 3)).trans (hb.mono (by simp)))
  have HP := Lib.hid (Lst.of_own ho)
  clear ho hb h
  simp only [List.length_cons, List.length_nil, Nat.zero_add, Nat.reduceAdd] at HP ⊢
  go_wp2_with fail
  refine (ints_eq _ _ 4 _ _ [7, 7, 7, 7] _ _ _ (HP.out.alloc _) (Lst.new (size := 1) w1 3 #[.int .i64 7, .int .i64 7, .int .i64 7, .int .i64 7] 4 rfl (fr := (0, 0)) rfl) (by omega)).mono ?_
  rintro e w2 ⟨rfl, hb⟩
  have HB2 := Lib.hid ((HB.out.alloc HB.out.size (.cells #[.int .i64 7, .int .i64 7, .int .i64 7, .int .i64 7] 3)).trans (hb.mono (by have := HB.out.size; simp; omega)))
  clear hb
  go_wp2
  go_ret
  exact ⟨rfl, HB2.out⟩
theorem radd_any (A : Option Addr) (n c most : Nat) (f : List Int) (s e : Int) (S : Nat → Prop) (w : World) (hL : Lst w S 1 A n (f.map (Value.int .i64))) (hok : okR f s e) (hm : (app f (s, e)).length ≤ most) (hmost : most ≤ 1000000) :
    Calls Try.prog 7 #[.slice A n c, .int .i64 s, .int .i64 e, .int .i64 (most : Nat)] w (Radd (app f (s, e)) w) := by
  have hfl : f.length = n := by have := hL.len; simpa using this
  rw [app_len, hfl] at hm
  rcases hok with ⟨h1, h2, rfl⟩ | ⟨rfl, h1, h2, h3⟩ | ⟨rfl, h1, h2⟩ | ⟨rfl, h1, h2⟩
  · rw [app_a f s ⟨h1, h2⟩]
    rw [runN_one s h2] at hm
    exact radd_a A n c most f s ⟨h1, h2⟩ S w hL hm hmost
  · rw [app_b, hfl]
    have hne : 0 < n := by rw [← hfl]; exact List.length_pos_iff.2 h3
    exact radd_b A n c most f e ⟨h1, h2⟩ hne S w hL hm hmost
  · rw [app_c]
    exact radd_c A n c most f e ⟨h1, h2⟩ S w hL hm hmost
  · rw [app_d]
    exact radd_d A n c most f e ⟨h1, h2⟩ S w hL hm hmost
theorem ok_or (ns : List Int) : okNs ns ∨ ∃ j, j < ns.length ∧ ¬ okN (ns.getD j 0) := by
  by_cases h : okNs ns
  · exact .inl h
  · right
    unfold okNs at h
    obtain ⟨x, h⟩ := Classical.not_forall.1 h
    obtain ⟨hx, hn⟩ := Classical.not_imp.1 h
    obtain ⟨j, hj, rfl⟩ := List.mem_iff_getElem.1 hx
    exact ⟨j, hj, by rwa [List.getD_eq_getElem?_getD, List.getElem?_eq_getElem hj]⟩
end Go.Proofs.Ytfoefncmfmfgeaa
