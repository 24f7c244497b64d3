/- Any end, read. -/
import Derived.Test.YtgjkkapopjpohaaH1
import Derived.Deep.RegionWith
namespace Go.Proofs.Ytgjkkapopjpohaa
open Go.RowKit

def rl (E : List UInt8) (u : Nat) (l : List (Bool × Int)) : List (Bool × Int) := [(num (E.take 4) == 101010256, 30), (num ((E.drop 4).take 4) == 0, 39), (num ((E.drop 10).take 2) == u, 39), (num ((E.drop 20).take 2) == 0, 39)] ++ l
theorem must_bad (x y z : Int) (b : Bool) (k : Int) (w : World) (hk : (k == 0) = false) : Calls Try.prog 34 #[tl x y z b, .int .i64 k] w fun e w' => e = .panicked [{ v := fault k, recovered := false }] ∧ Below w.heap.size w w' := by
  have HB := Lib.hid (((Below.refl w.heap.size w).alloc (Nat.le_refl _) (.cells #[.int .i64 x, .int .i64 y, .int .i64 z, .bool b] 23)).alloc (by simp) (.cells #[.int .i64 0, .int .i64 0, .int .i64 0, .bool false] 23))
  go_enter Try.func34, Try.ntmps34
  go_wp2_with fail
  refine (check_false k _).mono ?_
  rintro e wx ⟨rfl, rfl⟩
  go_wp2
  simp [bodyPost]
  exact HB.out
theorem read_short (A : Option Addr) (n c : Nat) (w : World) (hn : n < 22) :
    Calls Try.prog 19 #[.slice A n c] w fun e w' => e = .panicked [{ v := fault 4, recovered := false }] ∧ Below w.heap.size w w' := by
  have d1 : decide (22 ≤ n) = false := by simp; omega
  have d1' : decide ((22 : Int) ≤ (n : Int)) = false := by simp; omega
  have HB0 := Lib.hid ((Below.refl w.heap.size w).alloc (Nat.le_refl _) (.cells #[.int .i64 0, .int .i64 0, .int .i64 0, .bool false] 23))
  go_enter Try.func19, Try.ntmps19
  go_wp2_with fail
  refine (check_false 4 _).mono ?_
  rintro e wx ⟨rfl, rfl⟩
  go_wp2
  simp [bodyPost]
  exact HB0.out
set_option maxHeartbeats 8000000 in
set_option maxRecDepth 100000 in
theorem read_narrow (A : Option Addr) (n c : Nat) (bs : List UInt8) (S : Nat → Prop) (w : World) (E : List UInt8) (u x y : Nat) (K : Int) (hB : Bs w S A n bs) (hn : n ≤ 1000) (h22 : 22 ≤ n) (hnc : n ≤ c) (hE : bs.drop (n - 22) = E) (n2 : num ((E.drop 8).take 2) = u) (n4 : num ((E.drop 12).take 4) = x) (n5 : num ((E.drop 16).take 4) = y) (f0 : (u == 65535) = false) (hK : bad (rl E u [(okT (u : Nat) (x : Nat) (y : Nat), 13)]) = K) :
    Calls Try.prog 19 #[.slice A n c] w (RdP w.heap.size w K (tl u x y false)) := by
  obtain ⟨b, off, rfl, -, -, -⟩ := hB.at_ (i := 0) (by omega)
  obtain ⟨m, hm⟩ : ∃ m, n - 22 = m := ⟨_, rfl⟩
  have hcut := hB.cut (k := m) (c := c) (by omega) hnc
  rw [if_neg (by omega), ← hm, hE, hm, show n - m = 22 by omega] at hcut
  have hcut := Bs.alloc hcut (.cells #[.int .i64 0, .int .i64 0, .int .i64 0, .bool false] 23)
  have HO := Lib.hid (over_any (some ⟨b, off + m, none⟩) 22 (c - m) E S _ hcut (by omega))
  have d1 : decide (22 ≤ n) = true := by simpa using h22
  have d1' : decide ((22 : Int) ≤ (n : Int)) = true := by simp; omega
  have e1 : IntKind.i64.wrap ((n : Int) - 22) = (m : Int) := by rw [IntWalk.i64_in _ (by omega)]; omega
  have e1' : ((n : Int) - 22) = (m : Int) := by omega
  have e2 : n - m = 22 := by omega
  have hmn : (m : Int) ≤ (n : Int) := by omega
  have hcm : ¬ c = m := by omega
  have HT := Lib.hid (Whole.new w 23 #[.int .i64 0, .int .i64 0, .int .i64 0, .bool false] rfl)
  have HB0 := Lib.hid ((Below.refl w.heap.size w).alloc (Nat.le_refl _) (.cells #[.int .i64 0, .int .i64 0, .int .i64 0, .bool false] 23))
  have hub : u < 65536 := n2 ▸ num_bd E _ 2 _ (by decide)
  have hxb : x < 4294967296 := n4 ▸ num_bd E _ 4 _ (by decide)
  have hyb : y < 4294967296 := n5 ▸ num_bd E _ 4 _ (by decide)
  have HK := Lib.hid hK
  have kN : IntKind.i64.wrap (u : Int) = (u : Int) := IntWalk.i64_in _ (by omega)
  have kN' : IntKind.u64.wrap (u : Int) = (u : Int) := IntWalk.u64_in _ (by omega)
  have ks : IntKind.i64.wrap (x : Int) = (x : Int) := IntWalk.i64_in _ (by omega)
  have ka : IntKind.i64.wrap (y : Int) = (y : Int) := IntWalk.i64_in _ (by omega)
  have f0' : ((u : Int) == 65535) = false := by rw [beq_eq_false_iff_ne] at f0 ⊢; omega
  clear hE hcut hm hK
  go_enter Try.func19, Try.ntmps19
  go_wp2_with fail
  refine (check_true 4 _).mono ?_
  rintro e wx ⟨rfl, rfl⟩
  go_wp2_with fail
  refine HO.out.mono ?_
  rintro e w2 ⟨A2, c2, g, rfl, hg0, hR, hc1, hc2, hb⟩
  have hg : w.heap.size ≤ g := by simp at hg0; omega
  have hgR : w.heap.size < g := by simp at hg0; omega
  have HR := Lib.hid hR
  have HB := Lib.hid (HB0.out.trans (hb.mono HB0.out.size))
  have HT := Lib.hid (HT.out.below' hb)
  clear hR hb HO hg0
  go_wp2_with fail
  rcases Decidable.em (num (E.take 4) = 101010256) with n0 | n0
  rotate_left
  · refine (want_false g A2 22 c2 E 0 4 (101010256) 30 _ HR.out (by omega) hc1 (by omega) hc2 (by omega) (by omega) n0).mono ?_
    rintro e w20 ⟨rfl, hMv⟩
    have HB := Lib.hid (hMv.1.below HB.out hg HB.out.size)
    have hk := Lib.hid (show K = 30 by rw [← HK.out]; simp [bad, rl, n0])
    clear hMv
    go_wp2
    simp [bodyPost]
    exact ⟨by rw [hk.out]; rfl, HB.out⟩
  refine (want_true g A2 22 c2 E 0 4 (101010256) 30 _ HR.out (by omega) hc1 (by omega) hc2 (by omega) (by omega) n0).mono ?_
  rintro e wx ⟨rfl, hM⟩
  have HB := Lib.hid (hM.1.below HB.out hg HB.out.size)
  have HR := Lib.hid (hM.rdr HR.out)
  have HT := Lib.hid (hM.1.whole HT.out (by omega))
  clear hM
  go_wp2_with fail
  rcases Decidable.em (num ((E.drop 4).take 4) = 0) with n1 | n1
  rotate_left
  · refine (want_false g A2 22 c2 E 4 4 (0) 39 _ HR.out (by omega) hc1 (by omega) hc2 (by omega) (by omega) n1).mono ?_
    rintro e w20 ⟨rfl, hMv⟩
    have HB := Lib.hid (hMv.1.below HB.out hg HB.out.size)
    have hk := Lib.hid (show K = 39 by rw [← HK.out]; simp [bad, rl, n0, n1])
    clear hMv
    go_wp2
    simp [bodyPost]
    exact ⟨by rw [hk.out]; rfl, HB.out⟩
  refine (want_true g A2 22 c2 E 4 4 (0) 39 _ HR.out (by omega) hc1 (by omega) hc2 (by omega) (by omega) n1).mono ?_
  rintro e wx ⟨rfl, hM⟩
  have HB := Lib.hid (hM.1.below HB.out hg HB.out.size)
  have HR := Lib.hid (hM.rdr HR.out)
  have HT := Lib.hid (hM.1.whole HT.out (by omega))
  clear hM
  go_wp2_with fail
  obtain ⟨T, hT⟩ : ∃ T, wx.heap.size = T := ⟨_, rfl⟩
  have hwT : w.heap.size < T := by have := HT.out.lt; omega
  have HB := Lib.hid (HB.out.alloc HB.out.size (.cells #[.int .i64 0, .int .i64 0, .int .i64 0, .bool false] 23))
  have HT := Lib.hid (HT.out.alloc (.cells #[.int .i64 0, .int .i64 0, .int .i64 0, .bool false] 23))
  have HR := Lib.hid (HR.out.tail #[.int .i64 0, .int .i64 0, .int .i64 0, .bool false])
  rw [hT] at HR ⊢
  generalize wx.alloc (.cells #[.int .i64 0, .int .i64 0, .int .i64 0, .bool false] 23) = w9 at HR HT HB ⊢
  clear hT
  refine (int_get g A2 22 c2 E 8 2 (u) _ HR.out.rdr (by omega) hc1 (by omega) hc2 (by omega) (by omega) n2).mono ?_
  rintro e wx ⟨rfl, hM⟩
  have HB := Lib.hid (hM.1.below HB.out hg HB.out.size)
  have HR := Lib.hid (HR.out.moved hM)
  have HT := Lib.hid (hM.1.whole HT.out (by omega))
  clear hM
  have x0 := HR.out.2.2.1.cell 0
  have x1 := HR.out.2.2.1.cell 1
  have x2 := HR.out.2.2.1.cell 2
  have x3 := HR.out.2.2.1.cell 3
  have y0 := HR.out.2.2.1.free 0
  have y1 := HR.out.2.2.1.free 1
  have y2 := HR.out.2.2.1.free 2
  simp at x0 x1 x2 x3
  go_wp2_with fail
  have HR := Lib.hid (HR.out.store 0 (.int .i64 (u : Nat)) rfl)
  have HB := Lib.hid (HB.out.setCell (p := ⟨T, 0, none⟩) (by show w.heap.size ≤ T; omega) (.int .i64 (u : Nat)))
  have HT := Lib.hid (HT.out.other (p := ⟨T, 0, none⟩) (by show w.heap.size ≠ T; omega) (.int .i64 (u : Nat)))
  rcases Decidable.em (num ((E.drop 10).take 2) = u) with n3 | n3
  rotate_left
  · refine (want_false g A2 22 c2 E 10 2 (u) 39 _ HR.out.rdr (by omega) hc1 (by omega) hc2 (by omega) (by omega) n3).mono ?_
    rintro e w20 ⟨rfl, hMv⟩
    have HB := Lib.hid (hMv.1.below HB.out hg HB.out.size)
    have hk := Lib.hid (show K = 39 by rw [← HK.out]; simp [bad, rl, n0, n1, n3])
    clear hMv
    go_wp2
    simp [bodyPost]
    exact ⟨by rw [hk.out]; rfl, HB.out⟩
  refine (want_true g A2 22 c2 E 10 2 (u) 39 _ HR.out.rdr (by omega) hc1 (by omega) hc2 (by omega) (by omega) n3).mono ?_
  rintro e wx ⟨rfl, hM⟩
  have HB := Lib.hid (hM.1.below HB.out hg HB.out.size)
  have HR := Lib.hid (HR.out.moved hM)
  have HT := Lib.hid (hM.1.whole HT.out (by omega))
  clear hM
  have x0 := HR.out.2.2.1.cell 0
  have x1 := HR.out.2.2.1.cell 1
  have x2 := HR.out.2.2.1.cell 2
  have x3 := HR.out.2.2.1.cell 3
  have y0 := HR.out.2.2.1.free 0
  have y1 := HR.out.2.2.1.free 1
  have y2 := HR.out.2.2.1.free 2
  simp at x0 x1 x2 x3
  go_wp2_with fail
  refine (int_get g A2 22 c2 E 12 4 (x) _ HR.out.rdr (by omega) hc1 (by omega) hc2 (by omega) (by omega) n4).mono ?_
  rintro e wx ⟨rfl, hM⟩
  have HB := Lib.hid (hM.1.below HB.out hg HB.out.size)
  have HR := Lib.hid (HR.out.moved hM)
  have HT := Lib.hid (hM.1.whole HT.out (by omega))
  clear hM
  have x0 := HR.out.2.2.1.cell 0
  have x1 := HR.out.2.2.1.cell 1
  have x2 := HR.out.2.2.1.cell 2
  have x3 := HR.out.2.2.1.cell 3
  have y0 := HR.out.2.2.1.free 0
  have y1 := HR.out.2.2.1.free 1
  have y2 := HR.out.2.2.1.free 2
  simp at x0 x1 x2 x3
  go_wp2_with fail
  refine (int_get g A2 22 c2 E 16 4 (y) _ HR.out.rdr (by omega) hc1 (by omega) hc2 (by omega) (by omega) n5).mono ?_
  rintro e wx ⟨rfl, hM⟩
  have HB := Lib.hid (hM.1.below HB.out hg HB.out.size)
  have HR := Lib.hid (HR.out.moved hM)
  have HT := Lib.hid (hM.1.whole HT.out (by omega))
  clear hM
  have x0 := HR.out.2.2.1.cell 0
  have x1 := HR.out.2.2.1.cell 1
  have x2 := HR.out.2.2.1.cell 2
  have x3 := HR.out.2.2.1.cell 3
  have y0 := HR.out.2.2.1.free 0
  have y1 := HR.out.2.2.1.free 1
  have y2 := HR.out.2.2.1.free 2
  simp at x0 x1 x2 x3
  go_wp2_with fail
  have HR := Lib.hid (HR.out.store 1 (.int .i64 (x : Nat)) rfl)
  have HB := Lib.hid (HB.out.setCell (p := ⟨T, 1, none⟩) (by show w.heap.size ≤ T; omega) (.int .i64 (x : Nat)))
  have HT := Lib.hid (HT.out.other (p := ⟨T, 1, none⟩) (by show w.heap.size ≠ T; omega) (.int .i64 (x : Nat)))
  have HR := Lib.hid (HR.out.store 2 (.int .i64 (y : Nat)) rfl)
  have HB := Lib.hid (HB.out.setCell (p := ⟨T, 2, none⟩) (by show w.heap.size ≤ T; omega) (.int .i64 (y : Nat)))
  have HT := Lib.hid (HT.out.other (p := ⟨T, 2, none⟩) (by show w.heap.size ≠ T; omega) (.int .i64 (y : Nat)))
  rcases Decidable.em (num ((E.drop 20).take 2) = 0) with n6 | n6
  rotate_left
  · refine (want_false g A2 22 c2 E 20 2 (0) 39 _ HR.out.rdr (by omega) hc1 (by omega) hc2 (by omega) (by omega) n6).mono ?_
    rintro e w20 ⟨rfl, hMv⟩
    have HB := Lib.hid (hMv.1.below HB.out hg HB.out.size)
    have hk := Lib.hid (show K = 39 by rw [← HK.out]; simp [bad, rl, n0, n1, n3, n6])
    clear hMv
    go_wp2
    simp [bodyPost]
    exact ⟨by rw [hk.out]; rfl, HB.out⟩
  refine (want_true g A2 22 c2 E 20 2 (0) 39 _ HR.out.rdr (by omega) hc1 (by omega) hc2 (by omega) (by omega) n6).mono ?_
  rintro e wx ⟨rfl, hM⟩
  have HB := Lib.hid (hM.1.below HB.out hg HB.out.size)
  have HR := Lib.hid (HR.out.moved hM)
  have HT := Lib.hid (hM.1.whole HT.out (by omega))
  clear hM
  have x0 := HR.out.2.2.1.cell 0
  have x1 := HR.out.2.2.1.cell 1
  have x2 := HR.out.2.2.1.cell 2
  have x3 := HR.out.2.2.1.cell 3
  have y0 := HR.out.2.2.1.free 0
  have y1 := HR.out.2.2.1.free 1
  have y2 := HR.out.2.2.1.free 2
  simp at x0 x1 x2 x3
  have HX := Lib.hid HR.out.2.2.1
  have x0 := HX.out.cell 0
  have x1 := HX.out.cell 1
  have x2 := HX.out.cell 2
  have x3 := HX.out.cell 3
  have r0 := HT.out.cell 0
  have r1 := HT.out.cell 1
  have r2 := HT.out.cell 2
  have r3 := HT.out.cell 3
  have z0 := HT.out.free 0
  have z1 := HT.out.free 1
  have z2 := HT.out.free 2
  have z3 := HT.out.free 3
  simp at x0 x1 x2 x3 r0 r1 r2 r3
  go_wp2
  have HX := Lib.hid (show Whole wx.drew T 23 #[.int .i64 (u : Nat), .int .i64 (x : Nat), .int .i64 (y : Nat), .bool false] from HX.out)
  have HT := Lib.hid (show Whole wx.drew w.heap.size 23 #[.int .i64 0, .int .i64 0, .int .i64 0, .bool false] from HT.out)
  have HB := Lib.hid (show Below w.heap.size w wx.drew from HB.out.drew)
  rcases Bool.eq_false_or_eq_true (okT (u : Int) (x : Int) (y : Int)) with hok | hok
  · have hk := Lib.hid (show K = 0 by rw [← HK.out]; simp [bad, rl, n0, n1, n3, n6, hok])
    have CK := Lib.hid (fun w' => (check_any u x y false w').mono (R' := fun e w'' => e = .returned (.int .i64 0) ∧ Below w'.heap.size w' w'') (fun e w'' h => by rw [hok, if_pos rfl] at h; exact h))
    clear hok
    go_region_law (first
      | (go_simp
         go_at_call 10
         refine (CK.out _).mono ?_
         rintro e w20 ⟨rfl, hb20⟩
         have HX := Lib.hid (HX.out.below' hb20)
         have HT := Lib.hid (HT.out.below' hb20)
         have HB := Lib.hid (HB.out.trans (hb20.mono HB.out.size))
         have x0 := HX.out.cell 0
         have x1 := HX.out.cell 1
         have x2 := HX.out.cell 2
         have x3 := HX.out.cell 3
         have r0 := HT.out.cell 0
         have r1 := HT.out.cell 1
         have r2 := HT.out.cell 2
         have r3 := HT.out.cell 3
         have z0 := HT.out.free 0
         have z1 := HT.out.free 1
         have z2 := HT.out.free 2
         have z3 := HT.out.free 3
         simp at x0 x1 x2 x3 r0 r1 r2 r3
         clear hb20)
      | (go_simp
         go_at_call 34
         refine (must_ok _ _ _ _ _).mono ?_
         rintro e w20 ⟨rfl, hb20⟩
         have HX := Lib.hid (HX.out.below' hb20)
         have HT := Lib.hid (HT.out.below' hb20)
         have HB := Lib.hid (HB.out.trans (hb20.mono HB.out.size))
         have x0 := HX.out.cell 0
         have x1 := HX.out.cell 1
         have x2 := HX.out.cell 2
         have x3 := HX.out.cell 3
         have r0 := HT.out.cell 0
         have r1 := HT.out.cell 1
         have r2 := HT.out.cell 2
         have r3 := HT.out.cell 3
         have z0 := HT.out.free 0
         have z1 := HT.out.free 1
         have z2 := HT.out.free 2
         have z3 := HT.out.free 3
         simp at x0 x1 x2 x3 r0 r1 r2 r3
         clear hb20))
    all_goals
      have HM := Lib.hid (((((HT.out.put 0 (.int .i64 (u : Nat)) rfl).put 1 (.int .i64 (x : Nat)) rfl).put 2 (.int .i64 (y : Nat)) rfl).put 3 (.bool false) rfl))
      have h0 := HM.out.cell 0
      have h1 := HM.out.cell 1
      have h2 := HM.out.cell 2
      have h3 := HM.out.cell 3
      simp at h0 h1 h2 h3
      go_wp2
      simp [bodyPost, results, Try.results19, go_sem, h0, h1, h2, h3]
      exact ⟨by rw [hk.out]; rfl, (((HB.out.setCell (by show w.heap.size ≤ w.heap.size; omega) _).setCell (by show w.heap.size ≤ w.heap.size; omega) _).setCell (by show w.heap.size ≤ w.heap.size; omega) _).setCell (by show w.heap.size ≤ w.heap.size; omega) _⟩
  · have hk := Lib.hid (show K = 13 by rw [← HK.out]; simp [bad, rl, n0, n1, n3, n6, hok])
    have CK := Lib.hid (fun w' => (check_any u x y false w').mono (R' := fun e w'' => e = .returned (.int .i64 13) ∧ Below w'.heap.size w' w'') (fun e w'' h => by rw [hok, if_neg (by simp)] at h; exact h))
    clear hok
    refine wp_region_any (by kernel_rfl) ?_
    change wpAny _ _ _ _ _ _ _ (World.drew _)
    refine wpAny_ready (rs := [0, 1]) (by kernel_rfl) (by simp) ?_
    refine AllReady.cons rfl (fun K hK => ?_) ?_
    · go_simp
      refine hK _ _ ?_
      clear hK K
      refine wpAny_ready (rs := [1]) (by kernel_rfl) (by simp) ?_
      refine AllReady.cons rfl (fun K hK => ?_) ?_
      · go_simp
        refine hK _ _ ?_
        clear hK K
        refine wpAny_ready (rs := [2]) (by kernel_rfl) (by simp) ?_
        refine AllReady.cons rfl (fun K hK => ?_) ?_
        · go_simp
          refine (CK.out _).mono ?_
          rintro e w20 ⟨rfl, hb20⟩
          have HX := Lib.hid (HX.out.below' hb20)
          have HT := Lib.hid (HT.out.below' hb20)
          have HB := Lib.hid (HB.out.trans (hb20.mono HB.out.size))
          have x0 := HX.out.cell 0
          have x1 := HX.out.cell 1
          have x2 := HX.out.cell 2
          have x3 := HX.out.cell 3
          have r0 := HT.out.cell 0
          have r1 := HT.out.cell 1
          have r2 := HT.out.cell 2
          have r3 := HT.out.cell 3
          have z0 := HT.out.free 0
          have z1 := HT.out.free 1
          have z2 := HT.out.free 2
          have z3 := HT.out.free 3
          simp at x0 x1 x2 x3 r0 r1 r2 r3
          clear hb20
          go_simp
          refine hK _ _ ?_
          clear hK K
          refine wpAny_ready (rs := [3]) (by kernel_rfl) (by simp) ?_
          refine AllReady.cons rfl (fun K hK => ?_) ?_
          · go_simp
            refine (must_bad _ _ _ _ 13 _ (by decide)).mono ?_
            rintro e w20 ⟨rfl, hb20⟩
            have HB := Lib.hid (HB.out.trans (hb20.mono HB.out.size))
            clear hb20
            simp [bodyPost]
            exact ⟨by rw [hk.out]; rfl, HB.out⟩
          exact AllReady.nil
        exact AllReady.nil
      exact AllReady.nil
    refine AllReady.cons rfl (fun K hK => ?_) ?_
    · go_simp
      refine hK _ _ ?_
      clear hK K
      refine wpAny_ready (rs := [0, 2]) (by kernel_rfl) (by simp) ?_
      refine AllReady.cons rfl (fun K hK => ?_) ?_
      · go_simp
        refine hK _ _ ?_
        clear hK K
        refine wpAny_ready (rs := [2]) (by kernel_rfl) (by simp) ?_
        refine AllReady.cons rfl (fun K hK => ?_) ?_
        · go_simp
          refine (CK.out _).mono ?_
          rintro e w20 ⟨rfl, hb20⟩
          have HX := Lib.hid (HX.out.below' hb20)
          have HT := Lib.hid (HT.out.below' hb20)
          have HB := Lib.hid (HB.out.trans (hb20.mono HB.out.size))
          have x0 := HX.out.cell 0
          have x1 := HX.out.cell 1
          have x2 := HX.out.cell 2
          have x3 := HX.out.cell 3
          have r0 := HT.out.cell 0
          have r1 := HT.out.cell 1
          have r2 := HT.out.cell 2
          have r3 := HT.out.cell 3
          have z0 := HT.out.free 0
          have z1 := HT.out.free 1
          have z2 := HT.out.free 2
          have z3 := HT.out.free 3
          simp at x0 x1 x2 x3 r0 r1 r2 r3
          clear hb20
          go_simp
          refine hK _ _ ?_
          clear hK K
          refine wpAny_ready (rs := [3]) (by kernel_rfl) (by simp) ?_
          refine AllReady.cons rfl (fun K hK => ?_) ?_
          · go_simp
            refine (must_bad _ _ _ _ 13 _ (by decide)).mono ?_
            rintro e w20 ⟨rfl, hb20⟩
            have HB := Lib.hid (HB.out.trans (hb20.mono HB.out.size))
            clear hb20
            simp [bodyPost]
            exact ⟨by rw [hk.out]; rfl, HB.out⟩
          exact AllReady.nil
        exact AllReady.nil
      refine AllReady.cons rfl (fun K hK => ?_) ?_
      · go_simp
        refine (CK.out _).mono ?_
        rintro e w20 ⟨rfl, hb20⟩
        have HX := Lib.hid (HX.out.below' hb20)
        have HT := Lib.hid (HT.out.below' hb20)
        have HB := Lib.hid (HB.out.trans (hb20.mono HB.out.size))
        have x0 := HX.out.cell 0
        have x1 := HX.out.cell 1
        have x2 := HX.out.cell 2
        have x3 := HX.out.cell 3
        have r0 := HT.out.cell 0
        have r1 := HT.out.cell 1
        have r2 := HT.out.cell 2
        have r3 := HT.out.cell 3
        have z0 := HT.out.free 0
        have z1 := HT.out.free 1
        have z2 := HT.out.free 2
        have z3 := HT.out.free 3
        simp at x0 x1 x2 x3 r0 r1 r2 r3
        clear hb20
        go_simp
        refine hK _ _ ?_
        clear hK K
        refine wpAny_ready (rs := [0]) (by kernel_rfl) (by simp) ?_
        refine AllReady.cons rfl (fun K hK => ?_) ?_
        · go_simp
          refine hK _ _ ?_
          clear hK K
          refine wpAny_ready (rs := [3]) (by kernel_rfl) (by simp) ?_
          refine AllReady.cons rfl (fun K hK => ?_) ?_
          · go_simp
            refine (must_bad _ _ _ _ 13 _ (by decide)).mono ?_
            rintro e w20 ⟨rfl, hb20⟩
            have HB := Lib.hid (HB.out.trans (hb20.mono HB.out.size))
            clear hb20
            simp [bodyPost]
            exact ⟨by rw [hk.out]; rfl, HB.out⟩
          exact AllReady.nil
        exact AllReady.nil
      exact AllReady.nil
    exact AllReady.nil
end Go.Proofs.Ytgjkkapopjpohaa
