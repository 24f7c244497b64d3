/- Unpack, the page's Add, the example. -/
import Derived.Test.YtfoefncmfmfgeaaR4
namespace Go.Proofs.Ytfoefncmfmfgeaa
open Go.RowKit

theorem app_a (f : List Int) (s : Int) (h : 0 ≤ s ∧ s ≤ 15) : app f (s, 0) = f ++ List.replicate 1 s := by
  unfold app runV
  rw [runN_one s h.2, if_pos (by simp only; omega)]
theorem app_b (f : List Int) (e : Int) : app f (16, e) = f ++ List.replicate (3 + e.toNat) (f.getD (f.length - 1) 0) := rfl
theorem app_c (f : List Int) (e : Int) : app f (17, e) = f ++ List.replicate (3 + e.toNat) 0 := rfl
theorem app_d (f : List Int) (e : Int) : app f (18, e) = f ++ List.replicate (11 + e.toNat) 0 := rfl
theorem app_len (f : List Int) (r : Int × Int) : (app f r).length = f.length + runN r.1 r.2 := by simp [app]
theorem extend_any (base : Nat) (A : Option Addr) (n c most : Nat) (f : List Int) (s e : Int) (w : World) (hO : w.ownsRow base 3 1 (.slice A n c) n (f.map (Value.int .i64))) (hb : base ≤ w.heap.size) (hok : okR f s e) (hm : (app f (s, e)).length ≤ most) (hmost : most ≤ 1000000) :
    Calls Try.prog 15 #[.slice A n c, .agg #[.int .i64 s, .int .i64 e], .int .i64 (most : Nat)] w (Ext base (app f (s, e)) w) := by
  have hfl : f.length = n := by have := hO.1; simpa using this
  rw [app_len, hfl] at hm
  rcases hok with ⟨h1, h2, rfl⟩ | ⟨rfl, h1, h2, h3⟩ | ⟨rfl, h1, h2⟩ | ⟨rfl, h1, h2⟩
  · rw [app_a f s ⟨h1, h2⟩]
    rw [runN_one s h2] at hm
    exact extend_a base A n c most f s ⟨h1, h2⟩ w hO hb hm hmost
  · rw [app_b, hfl]
    have hne : 0 < n := by rw [← hfl]; exact List.length_pos_iff.2 h3
    exact extend_b base A n c most f e ⟨h1, h2⟩ hne w hO hb hm hmost
  · rw [app_c]
    exact extend_c base A n c most f e ⟨h1, h2⟩ w hO hb hm hmost
  · rw [app_d]
    exact extend_d base A n c most f e ⟨h1, h2⟩ w hO hb hm hmost
theorem runL_len (f : List Int) (l : List (Int × Int)) : f.length ≤ (runL f l).length := by
  induction l generalizing f with
  | nil => exact Nat.le_refl _
  | cons r l ih =>
    have := ih (app f r)
    rw [app_len] at this
    simp only [runL]
    omega
theorem runL_take (f : List Int) (l : List (Int × Int)) (k : Nat) (h : k < l.length) : runL f (l.take (k + 1)) = app (runL f (l.take k)) (l.getD k (0, 0)) := by
  rw [List.take_succ_eq_append_getElem h, runL_snoc, List.getD_eq_getElem?_getD, List.getElem?_eq_getElem h]
  rfl
theorem okL_at (f : List Int) (l : List (Int × Int)) (k : Nat) (h : k < l.length) (ho : okL f l) : okR (runL f (l.take k)) (l.getD k (0, 0)).1 (l.getD k (0, 0)).2 := by
  have h1 : l = l.take k ++ l.drop k := (List.take_append_drop k l).symm
  rw [h1, okL_append] at ho
  have h2 := ho.2
  rw [List.drop_eq_getElem_cons h] at h2
  rw [List.getD_eq_getElem?_getD, List.getElem?_eq_getElem h]
  exact h2.1
theorem runL_take_le (f : List Int) (l : List (Int × Int)) (k : Nat) : (runL f (l.take k)).length ≤ (runL f l).length := by
  have h1 : runL f l = runL (runL f (l.take k)) (l.drop k) := by rw [← runL_append, List.take_append_drop]
  rw [h1]
  exact runL_len _ _
def Unp (g : List Int) (w : World) (e : Ending) (w' : World) : Prop :=
  ∃ A' c', e = .returned (.tuple #[.slice A' g.length c', .int .i64 0]) ∧ w'.ownsRow w.heap.size 3 1 (.slice A' g.length c') g.length (g.map (Value.int .i64)) ∧ Below w.heap.size w w'
set_option maxHeartbeats 1000000 in
theorem unpack_any (A : Option Addr) (m c n : Nat) (l : List (Int × Int)) (g : List Int) (S : Nat → Prop) (w : World) (hL : Ps w S A m l) (hok : okL [] l) (hg : runL [] l = g) (hn : g.length = n) (hm : m ≤ 1000000) (hn2 : n ≤ 1000000) :
    Calls Try.prog 8 #[.slice A m c, .int .i64 (n : Nat)] w (Unp g w) := by
  have hl := hL.len
  subst hl
  have HL := Lib.hid hL
  have HK := Lib.hid hok
  have HG := Lib.hid hg
  have HN := Lib.hid hn
  clear hL hok hg hn
  go_enter Try.func8, Try.ntmps8
  go_wp2
  go_loopw [6, 13] (fun o i wr => ∃ (k q : Nat) (A2 : Option Addr) (c2 : Nat), k ≤ l.length ∧ i = .int .i64 (k : Nat) ∧ o = .slice A2 q c2 ∧ Hid (wr.ownsRow w.heap.size 3 1 (.slice A2 q c2) q ((runL [] (l.take k)).map (Value.int .i64))) ∧ Hid (Below w.heap.size w wr)) (fun _ i _ => l.length - (intOf i).toNat)
  case atStart => exact ⟨0, 0, none, 0, Nat.zero_le _, rfl, rfl, Lib.hid (by simp [World.ownsRow, runL]), Lib.hid (Below.refl _ _)⟩
  case round =>
    obtain ⟨k, q, A2, c2, hk, rfl, rfl, HO, HW⟩ := hrel
    by_cases hlt : k < l.length
    · obtain ⟨b, off, rfl, _, _, h1, h2⟩ := (HL.out.below HW.out).at_ hlt
      have HT := Lib.hid (runL_take [] l k hlt)
      have HR := Lib.hid (okL_at [] l k hlt HK.out)
      have HLE : Hid ((app (runL [] (l.take k)) (l.getD k (0, 0))).length ≤ n) := Lib.hid (by
        rw [← runL_take [] l k hlt, ← HN.out, ← HG.out]
        exact runL_take_le _ _ _)
      generalize l.getD k (0, 0) = r at *
      obtain ⟨s, e⟩ := r
      simp only at h1 h2
      go_wp2_with fail
      refine (extend_any w.heap.size A2 q c2 n _ s e _ (World.ownsRow.alloc HO.out _) (by have := HW.out.size; simp; omega) HR.out HLE.out hn2).mono ?_
      rintro e' w2 ⟨A3, c3, rfl, ho3, hb3⟩
      have HO3 : Hid (w2.ownsRow w.heap.size 3 1 (.slice A3 (app (runL [] (l.take k)) (s, e)).length c3) (app (runL [] (l.take k)) (s, e)).length ((runL [] (l.take (k + 1))).map (Value.int .i64))) := by
        rw [HT.out]
        exact Lib.hid ho3
      have HW3 := Lib.hid ((HW.out.alloc HW.out.size (.cells #[.int .i64 s, .int .i64 e] 31)).trans hb3)
      obtain ⟨q3, hq3⟩ : ∃ q3, (app (runL [] (l.take k)) (s, e)).length = q3 := ⟨_, rfl⟩
      rw [hq3] at HO3 ⊢
      clear ho3 hb3 hq3
      go_wp2
      go_round
      case rel => exact ⟨k + 1, q3, A3, c3, by omega, by go_num, rfl, HO3, HW3⟩
      case measure => simp [intOf]; omega
    · obtain rfl : k = l.length := by omega
      rw [List.take_length, HG.out] at HO
      have hq : q = n := by have := HO.out.1; have := HN.out; simp at *; omega
      subst hq
      have HN2 := HN.out
      go_wp2
      go_ret2
      unfold Unp
      rw [HN2]
      exact ⟨A2, c2, rfl, HO.out, HW.out⟩
theorem rbits_any (s : Int) (w : World) (hs : 0 ≤ s ∧ s ≤ 18) : Calls Try.prog 14 #[.int .i64 s] w fun e w' => e = .returned (.int .i64 (if s < 16 then 0 else if s = 16 then 2 else if s = 17 then 3 else 7)) ∧ w = w' := by
  obtain ⟨h0, h18⟩ := hs
  have x0 : decide (s < 0) = false := by simp; omega
  have x1 : decide (18 < s) = false := by simp; omega
  by_cases h16 : s < 16
  · have x2 : decide (s < 16) = true := by simpa using h16
    rw [if_pos h16]
    clear h16
    go_enter Try.func14, Try.ntmps14
    go_wp2
    go_ret
    exact ⟨rfl, rfl⟩
  · have x2 : decide (s < 16) = false := by simpa using h16
    rw [if_neg h16]
    by_cases h1 : s = 16
    · subst h1
      go_enter Try.func14, Try.ntmps14
      go_wp2
      go_ret
      exact ⟨rfl, rfl⟩
    · rw [if_neg h1]
      have x3 : (s == 16) = false := by simpa using h1
      by_cases h2 : s = 17
      · subst h2
        go_enter Try.func14, Try.ntmps14
        go_wp2
        go_ret
        exact ⟨rfl, rfl⟩
      · rw [if_neg h2]
        have x4 : (s == 17) = false := by simpa using h2
        clear h16 h1 h2
        go_enter Try.func14, Try.ntmps14
        go_wp2
        go_ret
        exact ⟨rfl, rfl⟩
def Radd (g : List Int) (w : World) (e : Ending) (w' : World) : Prop :=
  ∃ A' c', e = .returned (.tuple #[.slice A' g.length c', .bool true]) ∧ w'.ownsRow w.heap.size 3 1 (.slice A' g.length c') g.length (g.map (Value.int .i64)) ∧ Below w.heap.size w w'
set_option maxHeartbeats 1000000 in
theorem radd_a (A : Option Addr) (n c most : Nat) (f : List Int) (s : Int) (hs : 0 ≤ s ∧ s ≤ 15) (S : Nat → Prop) (w : World) (hL : Lst w S 1 A n (f.map (Value.int .i64))) (hm : n + 1 ≤ most) (hmost : most ≤ 1000000) :
    Calls Try.prog 7 #[.slice A n c, .int .i64 s, .int .i64 0, .int .i64 (most : Nat)] w (Radd (f ++ List.replicate 1 s) w) := by
  obtain ⟨i0, hi, hz0, hz1, hz2⟩ := info_parts info3
  simp only at hz0 hz1 hz2
  have hfl : f.length = n := by have := hL.len; simpa using this
  have HB : Hid (∀ w, Calls Try.prog 14 #[.int .i64 s] w fun e w' => e = .returned (.int .i64 0) ∧ w = w') := Lib.hid (fun w => by
    have := rbits_any s w (by omega)
    rwa [if_pos (by omega)] at this)
  have x16 : (s == 16) = false := by simp; omega
  have x17 : (s == 17) = false := by simp; omega
  have x18 : (s == 18) = false := by simp; omega
  clear hs
  have HF := Lib.hid hfl
  have HL := Lib.hid hL
  clear hL hfl
  have HM := Lib.hid hm
  have hmc : most ≤ 1000000 := hmost
  have hnm : n + 1 ≤ 1000000 := by omega
  clear hm
  go_enter Try.func7, Try.ntmps7
  go_wp2_with fail
  refine (HB.out _).mono ?_
  rintro e' wx ⟨rfl, rfl⟩
  go_wp2_with (at_builtin; refine wpList_append_list _ rfl (.tmp 59) (.tmp 60) 22 rfl w.heap.size 3 i0 (.int .i64 0) 1 8 Try.underlying22 hi hz0 hz1 hz2 rfl (by decide) (.slice (some ⟨w.heap.size, 0, none⟩) 0 0) 0 [] rfl (World.ownsRow_made w #[] 0 (Nat.le_refl _) (by unfold maxLen; omega) rfl) _ A (n) c _ rfl (Lst.alloc HL.out _) oneCell_ints (by unfold maxLen; omega) (by omega) (by simp) ?_)
  intro A3 c3 x3 hown3 hgrow3 hat3
  have HW3 := Lib.hid (((Below.refl w.heap.size w).alloc (Nat.le_refl _) (.cells #[] 3)).grown hgrow3 (by simp) (fun g e => by simp [Value.ownBlock] at e; omega))
  have HO3 : Hid (x3.ownsRow w.heap.size 3 1 (.slice A3 (n) c3) (n) (f.map (Value.int .i64))) := Lib.hid (by simpa using hown3)
  clear hown3 hgrow3 hat3
  go_wp2
  go_loopw [13, 14] (fun o i wr => ∃ (j : Nat) (A2 : Option Addr) (c2 : Nat), j ≤ 1 ∧ i = .int .i64 (j : Nat) ∧ o = .slice A2 (n + j) c2 ∧ Hid (wr.ownsRow w.heap.size 3 1 (.slice A2 (n + j) c2) (n + j) ((f ++ List.replicate j s).map (Value.int .i64))) ∧ Hid (Below w.heap.size w wr)) (fun _ i _ => 1 - (intOf i).toNat)
  case atStart => exact ⟨0, A3, c3, Nat.zero_le _, rfl, by simp, Lib.hid (by simpa using HO3.out), HW3⟩
  case round =>
    obtain ⟨j, A2, c2, hj, rfl, rfl, HO, HW⟩ := hrel
    by_cases hlt : j < 1
    · obtain ⟨m, hmj⟩ : ∃ m, n + j = m := ⟨_, rfl⟩
      rw [hmj] at HO ⊢
      have hmb : m ≤ 1000000 := by omega
      have HMJ := Lib.hid hmj
      clear hmj
      go_wp2_with (at_builtin; refine wpList_append_list _ rfl (.tmp 67) (.tmp 69) 22 rfl w.heap.size 3 i0 (.int .i64 0) 1 8 Try.underlying22 hi hz0 hz1 hz2 rfl (by decide) _ m _ rfl (World.ownsRow.alloc HO.out _) _ (some ⟨wr.heap.size, 0, none⟩) 1 1 [.int .i64 s] rfl (Lst.new wr 3 #[.int .i64 s] 1 rfl rfl) (by simp [Value.oneCell']) (by unfold maxLen; omega) (by omega) (by have := HW.out.size; simp; omega) ?_)
      intro A4 c4 x4 hown4 hgrow4 hat4
      have HO4 : Hid (x4.ownsRow w.heap.size 3 1 (.slice A4 (n + (j + 1)) c4) (n + (j + 1)) ((f ++ List.replicate (j + 1) s).map (Value.int .i64))) := by
        rw [show n + (j + 1) = m + 1 by have := HMJ.out; omega]
        exact Lib.hid (by simpa [List.replicate_succ'] using hown4)
      have HW4 := Lib.hid ((HW.out.alloc HW.out.size _).grown hgrow4 (by have := HW.out.size; simp; omega) (fun g e => (HO.out.lt g e).1))
      clear hown4 hgrow4 hat4
      go_wp2
      go_round
      case rel => exact ⟨j + 1, A4, c4, by omega, by go_num, by rw [show n + (j + 1) = m + 1 by have := HMJ.out; omega], HO4, HW4⟩
      case measure => simp [intOf]; omega
    · obtain rfl : j = 1 := by omega
      have hle := HM.out
      obtain ⟨m, hmj⟩ : ∃ m, n + 1 = m := ⟨_, rfl⟩
      rw [hmj] at HO hle ⊢
      have m1 : decide (most < m) = false := by simp; omega
      have HMJ := Lib.hid hmj
      clear hmj
      go_wp2
      go_ret2
      unfold Radd
      rw [List.length_append, List.length_replicate, HF.out, HMJ.out]
      exact ⟨A2, c2, rfl, HO.out, HW.out⟩
set_option maxHeartbeats 1000000 in
theorem radd_b (A : Option Addr) (n c most : Nat) (f : List Int) (e : Int) (he : 0 ≤ e ∧ e ≤ 3) (hne : 0 < n) (S : Nat → Prop) (w : World) (hL : Lst w S 1 A n (f.map (Value.int .i64))) (hm : n + (3 + e.toNat) ≤ most) (hmost : most ≤ 1000000) :
    Calls Try.prog 7 #[.slice A n c, .int .i64 16, .int .i64 e, .int .i64 (most : Nat)] w (Radd (f ++ List.replicate (3 + e.toNat) (f.getD (n - 1) 0)) w) := by
  obtain ⟨i0, hi, hz0, hz1, hz2⟩ := info_parts info3
  simp only at hz0 hz1 hz2
  have hfl : f.length = n := by have := hL.len; simpa using this
  obtain ⟨x, rfl⟩ := Int.eq_ofNat_of_zero_le he.1
  have hx : x ≤ 3 := by have := he.2; omega
  have x0 : decide ((x : Int) < 0) = false := by simp
  have x1 : decide (4 ≤ (x : Int)) = false := by simp; omega
  have x1' : decide (4 ≤ x) = false := by simp; omega
  have HB : Hid (∀ w, Calls Try.prog 14 #[.int .i64 16] w fun e w' => e = .returned (.int .i64 2) ∧ w = w') := Lib.hid (fun w => rbits_any 16 w (by omega))
  simp only [Int.toNat_natCast] at hm ⊢
  clear he
  obtain ⟨lb, lo, rfl, lbl, _, lc⟩ := hL.int_at (i := n - 1) (by omega)
  obtain ⟨v, hv⟩ : ∃ v, f.getD (n - 1) 0 = v := ⟨_, rfl⟩
  obtain ⟨n1, rfl⟩ : ∃ n1, n = n1 + 1 := ⟨n - 1, by omega⟩
  rw [Nat.add_sub_cancel] at lc hv
  rw [hv] at lc
  rw [show n1 + 1 - 1 = n1 from rfl, hv]
  have z0 : ((n1 : Int) + 1 == 0) = false := by simp; omega
  clear hv hne
  have HF := Lib.hid hfl
  have HL := Lib.hid hL
  clear hL hfl
  obtain ⟨K, hK⟩ : ∃ K : Nat, 3 + x = K := ⟨_, rfl⟩
  rw [hK] at hm ⊢
  have e1 : IntKind.i64.wrap (3 + (x : Int)) = (K : Int) := by rw [IntWalk.i64_in _ (by omega)]; omega
  have e2 : (3 : Int) + (x : Int) = (K : Int) := by omega
  have HM := Lib.hid hm
  have hmc : most ≤ 1000000 := hmost
  have hnm : n1 + 1 + K ≤ 1000000 := by omega
  clear hK hm
  go_enter Try.func7, Try.ntmps7
  go_wp2_with fail
  refine (HB.out _).mono ?_
  rintro e' wx ⟨rfl, rfl⟩
  go_wp2_with (at_builtin; refine wpList_append_list _ rfl (.tmp 59) (.tmp 60) 22 rfl w.heap.size 3 i0 (.int .i64 0) 1 8 Try.underlying22 hi hz0 hz1 hz2 rfl (by decide) (.slice (some ⟨w.heap.size, 0, none⟩) 0 0) 0 [] rfl (World.ownsRow_made w #[] 0 (Nat.le_refl _) (by unfold maxLen; omega) rfl) _ (some ⟨lb, lo, none⟩) (n1 + 1) c _ rfl (Lst.alloc HL.out _) oneCell_ints (by unfold maxLen; omega) (by omega) (by simp) ?_)
  intro A3 c3 x3 hown3 hgrow3 hat3
  have HW3 := Lib.hid (((Below.refl w.heap.size w).alloc (Nat.le_refl _) (.cells #[] 3)).grown hgrow3 (by simp) (fun g e => by simp [Value.ownBlock] at e; omega))
  have HO3 : Hid (x3.ownsRow w.heap.size 3 1 (.slice A3 (n1 + 1) c3) (n1 + 1) (f.map (Value.int .i64))) := Lib.hid (by simpa using hown3)
  clear hown3 hgrow3 hat3
  go_wp2
  go_loopw [13, 14] (fun o i wr => ∃ (j : Nat) (A2 : Option Addr) (c2 : Nat), j ≤ K ∧ i = .int .i64 (j : Nat) ∧ o = .slice A2 (n1 + 1 + j) c2 ∧ Hid (wr.ownsRow w.heap.size 3 1 (.slice A2 (n1 + 1 + j) c2) (n1 + 1 + j) ((f ++ List.replicate j v).map (Value.int .i64))) ∧ Hid (Below w.heap.size w wr)) (fun _ i _ => K - (intOf i).toNat)
  case atStart => exact ⟨0, A3, c3, Nat.zero_le _, rfl, by simp, Lib.hid (by simpa using HO3.out), HW3⟩
  case round =>
    obtain ⟨j, A2, c2, hj, rfl, rfl, HO, HW⟩ := hrel
    by_cases hlt : j < K
    · obtain ⟨m, hmj⟩ : ∃ m, n1 + 1 + j = m := ⟨_, rfl⟩
      rw [hmj] at HO ⊢
      have hmb : m ≤ 1000000 := by omega
      have HMJ := Lib.hid hmj
      clear hmj
      go_wp2_with (at_builtin; refine wpList_append_list _ rfl (.tmp 67) (.tmp 69) 22 rfl w.heap.size 3 i0 (.int .i64 0) 1 8 Try.underlying22 hi hz0 hz1 hz2 rfl (by decide) _ m _ rfl (World.ownsRow.alloc HO.out _) _ (some ⟨wr.heap.size, 0, none⟩) 1 1 [.int .i64 v] rfl (Lst.new wr 3 #[.int .i64 v] 1 rfl rfl) (by simp [Value.oneCell']) (by unfold maxLen; omega) (by omega) (by have := HW.out.size; simp; omega) ?_)
      intro A4 c4 x4 hown4 hgrow4 hat4
      have HO4 : Hid (x4.ownsRow w.heap.size 3 1 (.slice A4 (n1 + 1 + (j + 1)) c4) (n1 + 1 + (j + 1)) ((f ++ List.replicate (j + 1) v).map (Value.int .i64))) := by
        rw [show n1 + 1 + (j + 1) = m + 1 by have := HMJ.out; omega]
        exact Lib.hid (by simpa [List.replicate_succ'] using hown4)
      have HW4 := Lib.hid ((HW.out.alloc HW.out.size _).grown hgrow4 (by have := HW.out.size; simp; omega) (fun g e => (HO.out.lt g e).1))
      clear hown4 hgrow4 hat4
      go_wp2
      go_round
      case rel => exact ⟨j + 1, A4, c4, by omega, by go_num, by rw [show n1 + 1 + (j + 1) = m + 1 by have := HMJ.out; omega], HO4, HW4⟩
      case measure => simp [intOf]; omega
    · obtain rfl : j = K := by omega
      have hle := HM.out
      obtain ⟨m, hmj⟩ : ∃ m, n1 + 1 + j = m := ⟨_, rfl⟩
      rw [hmj] at HO hle ⊢
      have m1 : decide (most < m) = false := by simp; omega
      have HMJ := Lib.hid hmj
      clear hmj
      go_wp2
      go_ret2
      unfold Radd
      rw [List.length_append, List.length_replicate, HF.out, HMJ.out]
      exact ⟨A2, c2, rfl, HO.out, HW.out⟩
set_option maxHeartbeats 1000000 in
theorem radd_c (A : Option Addr) (n c most : Nat) (f : List Int) (e : Int) (he : 0 ≤ e ∧ e ≤ 7) (S : Nat → Prop) (w : World) (hL : Lst w S 1 A n (f.map (Value.int .i64))) (hm : n + (3 + e.toNat) ≤ most) (hmost : most ≤ 1000000) :
    Calls Try.prog 7 #[.slice A n c, .int .i64 17, .int .i64 e, .int .i64 (most : Nat)] w (Radd (f ++ List.replicate (3 + e.toNat) 0) w) := by
  obtain ⟨i0, hi, hz0, hz1, hz2⟩ := info_parts info3
  simp only at hz0 hz1 hz2
  have hfl : f.length = n := by have := hL.len; simpa using this
  obtain ⟨x, rfl⟩ := Int.eq_ofNat_of_zero_le he.1
  have hx : x ≤ 7 := by have := he.2; omega
  have x0 : decide ((x : Int) < 0) = false := by simp
  have x1 : decide (8 ≤ (x : Int)) = false := by simp; omega
  have x1' : decide (8 ≤ x) = false := by simp; omega
  have HB : Hid (∀ w, Calls Try.prog 14 #[.int .i64 17] w fun e w' => e = .returned (.int .i64 3) ∧ w = w') := Lib.hid (fun w => rbits_any 17 w (by omega))
  simp only [Int.toNat_natCast] at hm ⊢
  clear he
  have HF := Lib.hid hfl
  have HL := Lib.hid hL
  clear hL hfl
  obtain ⟨K, hK⟩ : ∃ K : Nat, 3 + x = K := ⟨_, rfl⟩
  rw [hK] at hm ⊢
  have e1 : IntKind.i64.wrap (3 + (x : Int)) = (K : Int) := by rw [IntWalk.i64_in _ (by omega)]; omega
  have e2 : (3 : Int) + (x : Int) = (K : Int) := by omega
  have HM := Lib.hid hm
  have hmc : most ≤ 1000000 := hmost
  have hnm : n + K ≤ 1000000 := by omega
  clear hK hm
  go_enter Try.func7, Try.ntmps7
  go_wp2_with fail
  refine (HB.out _).mono ?_
  rintro e' wx ⟨rfl, rfl⟩
  go_wp2_with (at_builtin; refine wpList_append_list _ rfl (.tmp 59) (.tmp 60) 22 rfl w.heap.size 3 i0 (.int .i64 0) 1 8 Try.underlying22 hi hz0 hz1 hz2 rfl (by decide) (.slice (some ⟨w.heap.size, 0, none⟩) 0 0) 0 [] rfl (World.ownsRow_made w #[] 0 (Nat.le_refl _) (by unfold maxLen; omega) rfl) _ A (n) c _ rfl (Lst.alloc HL.out _) oneCell_ints (by unfold maxLen; omega) (by omega) (by simp) ?_)
  intro A3 c3 x3 hown3 hgrow3 hat3
  have HW3 := Lib.hid (((Below.refl w.heap.size w).alloc (Nat.le_refl _) (.cells #[] 3)).grown hgrow3 (by simp) (fun g e => by simp [Value.ownBlock] at e; omega))
  have HO3 : Hid (x3.ownsRow w.heap.size 3 1 (.slice A3 (n) c3) (n) (f.map (Value.int .i64))) := Lib.hid (by simpa using hown3)
  clear hown3 hgrow3 hat3
  go_wp2
  go_loopw [13, 14] (fun o i wr => ∃ (j : Nat) (A2 : Option Addr) (c2 : Nat), j ≤ K ∧ i = .int .i64 (j : Nat) ∧ o = .slice A2 (n + j) c2 ∧ Hid (wr.ownsRow w.heap.size 3 1 (.slice A2 (n + j) c2) (n + j) ((f ++ List.replicate j 0).map (Value.int .i64))) ∧ Hid (Below w.heap.size w wr)) (fun _ i _ => K - (intOf i).toNat)
  case atStart => exact ⟨0, A3, c3, Nat.zero_le _, rfl, by simp, Lib.hid (by simpa using HO3.out), HW3⟩
  case round =>
    obtain ⟨j, A2, c2, hj, rfl, rfl, HO, HW⟩ := hrel
    by_cases hlt : j < K
    · obtain ⟨m, hmj⟩ : ∃ m, n + j = m := ⟨_, rfl⟩
      rw [hmj] at HO ⊢
      have hmb : m ≤ 1000000 := by omega
      have HMJ := Lib.hid hmj
      clear hmj
      go_wp2_with (at_builtin; refine wpList_append_list _ rfl (.tmp 67) (.tmp 69) 22 rfl w.heap.size 3 i0 (.int .i64 0) 1 8 Try.underlying22 hi hz0 hz1 hz2 rfl (by decide) _ m _ rfl (World.ownsRow.alloc HO.out _) _ (some ⟨wr.heap.size, 0, none⟩) 1 1 [.int .i64 0] rfl (Lst.new wr 3 #[.int .i64 0] 1 rfl rfl) (by simp [Value.oneCell']) (by unfold maxLen; omega) (by omega) (by have := HW.out.size; simp; omega) ?_)
      intro A4 c4 x4 hown4 hgrow4 hat4
      have HO4 : Hid (x4.ownsRow w.heap.size 3 1 (.slice A4 (n + (j + 1)) c4) (n + (j + 1)) ((f ++ List.replicate (j + 1) 0).map (Value.int .i64))) := by
        rw [show n + (j + 1) = m + 1 by have := HMJ.out; omega]
        exact Lib.hid (by simpa [List.replicate_succ'] using hown4)
      have HW4 := Lib.hid ((HW.out.alloc HW.out.size _).grown hgrow4 (by have := HW.out.size; simp; omega) (fun g e => (HO.out.lt g e).1))
      clear hown4 hgrow4 hat4
      go_wp2
      go_round
      case rel => exact ⟨j + 1, A4, c4, by omega, by go_num, by rw [show n + (j + 1) = m + 1 by have := HMJ.out; omega], HO4, HW4⟩
      case measure => simp [intOf]; omega
    · obtain rfl : j = K := by omega
      have hle := HM.out
      obtain ⟨m, hmj⟩ : ∃ m, n + j = m := ⟨_, rfl⟩
      rw [hmj] at HO hle ⊢
      have m1 : decide (most < m) = false := by simp; omega
      have HMJ := Lib.hid hmj
      clear hmj
      go_wp2
      go_ret2
      unfold Radd
      rw [List.length_append, List.length_replicate, HF.out, HMJ.out]
      exact ⟨A2, c2, rfl, HO.out, HW.out⟩
set_option maxHeartbeats 1000000 in
theorem radd_d (A : Option Addr) (n c most : Nat) (f : List Int) (e : Int) (he : 0 ≤ e ∧ e ≤ 127) (S : Nat → Prop) (w : World) (hL : Lst w S 1 A n (f.map (Value.int .i64))) (hm : n + (11 + e.toNat) ≤ most) (hmost : most ≤ 1000000) :
    Calls Try.prog 7 #[.slice A n c, .int .i64 18, .int .i64 e, .int .i64 (most : Nat)] w (Radd (f ++ List.replicate (11 + e.toNat) 0) w) := by
  obtain ⟨i0, hi, hz0, hz1, hz2⟩ := info_parts info3
  simp only at hz0 hz1 hz2
  have hfl : f.length = n := by have := hL.len; simpa using this
  obtain ⟨x, rfl⟩ := Int.eq_ofNat_of_zero_le he.1
  have hx : x ≤ 127 := by have := he.2; omega
  have x0 : decide ((x : Int) < 0) = false := by simp
  have x1 : decide (128 ≤ (x : Int)) = false := by simp; omega
  have x1' : decide (128 ≤ x) = false := by simp; omega
  have HB : Hid (∀ w, Calls Try.prog 14 #[.int .i64 18] w fun e w' => e = .returned (.int .i64 7) ∧ w = w') := Lib.hid (fun w => rbits_any 18 w (by omega))
  simp only [Int.toNat_natCast] at hm ⊢
  clear he
  have HF := Lib.hid hfl
  have HL := Lib.hid hL
  clear hL hfl
  obtain ⟨K, hK⟩ : ∃ K : Nat, 11 + x = K := ⟨_, rfl⟩
  rw [hK] at hm ⊢
  have e1 : IntKind.i64.wrap (11 + (x : Int)) = (K : Int) := by rw [IntWalk.i64_in _ (by omega)]; omega
  have e2 : (11 : Int) + (x : Int) = (K : Int) := by omega
  have HM := Lib.hid hm
  have hmc : most ≤ 1000000 := hmost
  have hnm : n + K ≤ 1000000 := by omega
  clear hK hm
  go_enter Try.func7, Try.ntmps7
  go_wp2_with fail
  refine (HB.out _).mono ?_
  rintro e' wx ⟨rfl, rfl⟩
  go_wp2_with (at_builtin; refine wpList_append_list _ rfl (.tmp 59) (.tmp 60) 22 rfl w.heap.size 3 i0 (.int .i64 0) 1 8 Try.underlying22 hi hz0 hz1 hz2 rfl (by decide) (.slice (some ⟨w.heap.size, 0, none⟩) 0 0) 0 [] rfl (World.ownsRow_made w #[] 0 (Nat.le_refl _) (by unfold maxLen; omega) rfl) _ A (n) c _ rfl (Lst.alloc HL.out _) oneCell_ints (by unfold maxLen; omega) (by omega) (by simp) ?_)
  intro A3 c3 x3 hown3 hgrow3 hat3
  have HW3 := Lib.hid (((Below.refl w.heap.size w).alloc (Nat.le_refl _) (.cells #[] 3)).grown hgrow3 (by simp) (fun g e => by simp [Value.ownBlock] at e; omega))
  have HO3 : Hid (x3.ownsRow w.heap.size 3 1 (.slice A3 (n) c3) (n) (f.map (Value.int .i64))) := Lib.hid (by simpa using hown3)
  clear hown3 hgrow3 hat3
  go_wp2
  go_loopw [13, 14] (fun o i wr => ∃ (j : Nat) (A2 : Option Addr) (c2 : Nat), j ≤ K ∧ i = .int .i64 (j : Nat) ∧ o = .slice A2 (n + j) c2 ∧ Hid (wr.ownsRow w.heap.size 3 1 (.slice A2 (n + j) c2) (n + j) ((f ++ List.replicate j 0).map (Value.int .i64))) ∧ Hid (Below w.heap.size w wr)) (fun _ i _ => K - (intOf i).toNat)
  case atStart => exact ⟨0, A3, c3, Nat.zero_le _, rfl, by simp, Lib.hid (by simpa using HO3.out), HW3⟩
  case round =>
    obtain ⟨j, A2, c2, hj, rfl, rfl, HO, HW⟩ := hrel
    by_cases hlt : j < K
    · obtain ⟨m, hmj⟩ : ∃ m, n + j = m := ⟨_, rfl⟩
      rw [hmj] at HO ⊢
      have hmb : m ≤ 1000000 := by omega
      have HMJ := Lib.hid hmj
      clear hmj
      go_wp2_with (at_builtin; refine wpList_append_list _ rfl (.tmp 67) (.tmp 69) 22 rfl w.heap.size 3 i0 (.int .i64 0) 1 8 Try.underlying22 hi hz0 hz1 hz2 rfl (by decide) _ m _ rfl (World.ownsRow.alloc HO.out _) _ (some ⟨wr.heap.size, 0, none⟩) 1 1 [.int .i64 0] rfl (Lst.new wr 3 #[.int .i64 0] 1 rfl rfl) (by simp [Value.oneCell']) (by unfold maxLen; omega) (by omega) (by have := HW.out.size; simp; omega) ?_)
      intro A4 c4 x4 hown4 hgrow4 hat4
      have HO4 : Hid (x4.ownsRow w.heap.size 3 1 (.slice A4 (n + (j + 1)) c4) (n + (j + 1)) ((f ++ List.replicate (j + 1) 0).map (Value.int .i64))) := by
        rw [show n + (j + 1) = m + 1 by have := HMJ.out; omega]
        exact Lib.hid (by simpa [List.replicate_succ'] using hown4)
      have HW4 := Lib.hid ((HW.out.alloc HW.out.size _).grown hgrow4 (by have := HW.out.size; simp; omega) (fun g e => (HO.out.lt g e).1))
      clear hown4 hgrow4 hat4
      go_wp2
      go_round
      case rel => exact ⟨j + 1, A4, c4, by omega, by go_num, by rw [show n + (j + 1) = m + 1 by have := HMJ.out; omega], HO4, HW4⟩
      case measure => simp [intOf]; omega
    · obtain rfl : j = K := by omega
      have hle := HM.out
      obtain ⟨m, hmj⟩ : ∃ m, n + j = m := ⟨_, rfl⟩
      rw [hmj] at HO hle ⊢
      have m1 : decide (most < m) = false := by simp; omega
      have HMJ := Lib.hid hmj
      clear hmj
      go_wp2
      go_ret2
      unfold Radd
      rw [List.length_append, List.length_replicate, HF.out, HMJ.out]
      exact ⟨A2, c2, rfl, HO.out, HW.out⟩
end Go.Proofs.Ytfoefncmfmfgeaa
