/- Any bytes, read. -/
import Derived.Test.YtafdflpjfdeohaaE1
import Derived.Deep.RegionWith
namespace Go.Proofs.Ytafdflpjfdeohaa
open Go.RowKit

def bad : List (Bool × Int) → Int
  | [] => 0
  | (b, c) :: l => if b = true then bad l else c
def dl (bs : List UInt8) (n : Nat) (wd : Bool) (ip is : Int) : List (Bool × Int) := [(decide (4 ≤ n), 4), (num (bs.take 4) == 134695760, 30), (decide (8 ≤ n), 4), (decide (8 + wid wd ≤ n), 4), (decide (8 + 2 * wid wd ≤ n), 4), (okD ip is, 13)]
def RdQ (w : World) (g : Nat) (A : Option Addr) (n cap L : Nat) (K : Int) (v : Value) (e : Ending) (w' : World) : Prop := e = (if K = 0 then .returned v else .panicked [{ v := fault K, recovered := false }]) ∧ Alone w w' g ∧ (K = 0 → Whole w' g 53 #[.slice A n cap, .int .i64 (L : Nat)])
theorem RdQ.no {w w' : World} {g : Nat} {A : Option Addr} {n cap L : Nat} {K k : Int} {v : Value} (h : K ≠ 0) (hk : K = k) (ha : Alone w w' g) : RdQ w g A n cap L K v (.panicked [{ v := fault k, recovered := false }]) w' := by
  subst hk
  exact ⟨by rw [if_neg h], ha, fun h0 => absurd h0 h⟩
theorem RdQ.yes {w w' : World} {g : Nat} {A : Option Addr} {n cap L : Nat} {K : Int} {v : Value} (h : K = 0) (ha : Alone w w' g) (hw : Whole w' g 53 #[.slice A n cap, .int .i64 (L : Nat)]) : RdQ w g A n cap L K v (.returned v) w' :=
  ⟨by rw [if_pos h], ha, fun _ => hw⟩
theorem w64 (n : Int) : wrap64 n = IntKind.i64.wrap n := by rw [IntKind.wrap_i64]; unfold wrap64; rfl
theorem num_bd (E : List UInt8) (p k n : Nat) (h : 256 ^ k = n) : num ((E.drop p).take k) < n := by
  have h1 := num_lt ((E.drop p).take k)
  have h2 : ((E.drop p).take k).length ≤ k := by rw [List.length_take]; omega
  have h3 := Nat.pow_le_pow_right (show 0 < 256 by omega) h2
  omega
theorem must_bad (x y z : Int) (b : Bool) (k : Int) (w : World) (hk : (k == 0) = false) : Calls Try.prog 27 #[tl x y z b, .int .i64 k] w fun e w' => e = .panicked [{ v := fault k, recovered := false }] ∧ Below w.heap.size w w' := by
  have HB := Lib.hid (((Below.refl w.heap.size w).alloc (Nat.le_refl _) (.cells #[.int .u32 x, .int .i64 y, .int .i64 z, .bool b] 24)).alloc (by simp) (.cells #[.int .u32 0, .int .i64 0, .int .i64 0, .bool false] 24))
  go_enter Try.func27, Try.ntmps27
  go_wp2_with fail
  refine (check_false k _).mono ?_
  rintro e wx ⟨rfl, rfl⟩
  go_wp2
  simp [bodyPost]
  exact HB.out
set_option maxHeartbeats 8000000 in
set_option maxRecDepth 100000 in
theorem readq_slim (g : Nat) (A : Option Addr) (n cap : Nat) (bs : List UInt8) (c p s : Nat) (ip is : Int) (K : Int) (w : World) (hR : Rdr w g A n cap bs 0) (hn : n ≤ 1000) (hnc : n ≤ cap) (hcc : cap ≤ 9223372036854775807)
    (n1 : num ((bs.drop 4).take 4) = c) (n2 : num ((bs.drop 8).take 4) = p) (n3 : num ((bs.drop 12).take 4) = s) (hp : IntKind.i64.wrap (p : Int) = ip) (hs : IntKind.i64.wrap (s : Int) = is) (hK : bad (dl bs n false ip is) = K) :
    Calls Try.prog 15 #[.pointer (some ⟨g, 0, none⟩), .bool false] w (RdQ w g A n cap 16 K (tl c ip is false)) := by
  have hcb : c < 4294967296 := n1 ▸ num_bd bs _ 4 _ (by decide)
  have HK := Lib.hid hK
  have WA : Hid (∀ w, Calls Try.prog 18 #[.bool false] w fun e w' => e = .returned (.int .i64 4) ∧ w = w') := Lib.hid (fun w => width_any false w)
  have kc : IntKind.u32.wrap (c : Int) = (c : Int) := IntWalk.u32_in _ (by omega)
  have kp2 : wrap64 (p : Int) = ip := by rw [← hp, w64]
  have ks2 : wrap64 (s : Int) = is := by rw [← hs, w64]
  have hgl := hR.1.lt
  have HT := Lib.hid (Whole.new w 24 #[.int .u32 0, .int .i64 0, .int .i64 0, .bool false] rfl)
  have HA := Lib.hid ((Alone.refl w g).alloc (.cells #[.int .u32 0, .int .i64 0, .int .i64 0, .bool false] 24))
  have HR := Lib.hid (hR.below ((Below.refl w.heap.size w).alloc (Nat.le_refl _) (.cells #[.int .u32 0, .int .i64 0, .int .i64 0, .bool false] 24)))
  clear hR hK
  go_enter Try.func15, Try.ntmps15
  go_wp2_with fail
  rcases Nat.lt_or_ge n 4 with l0 | l0
  · have b0 : decide (4 ≤ n) = false := by simp; omega
    have hk := Lib.hid (show K = 4 by rw [← HK.out]; simp [bad, dl, wid, b0])
    clear b0
    refine (want_threw _ _ _ _ _ _ (int_short g A n cap bs 0 4 _ HR.out (by omega) (by omega) (by omega) (by omega) (by omega))).mono ?_
    rintro e w20 ⟨rfl, hb⟩
    have HA := Lib.hid (HA.out.trans (Alone.of_below hb g))
    clear hb
    go_wp2
    simp [bodyPost]
    exact RdQ.no (by rw [hk.out]; decide) (by rw [hk.out]) HA.out
  have b0 : decide (4 ≤ n) = true := by simpa using l0
  rcases Decidable.em (num (bs.take 4) = 134695760) with n0 | n0
  rotate_left
  · have hk := Lib.hid (show K = 30 by rw [← HK.out]; simp [bad, dl, wid, b0, n0])
    refine (want_false g A n cap bs 0 4 134695760 30 _ HR.out (by omega) hnc (by omega) hcc (by omega) (by omega) n0).mono ?_
    rintro e w20 ⟨rfl, hMv⟩
    have HA := Lib.hid (HA.out.trans hMv.1)
    clear hMv
    go_wp2
    simp [bodyPost]
    exact RdQ.no (by rw [hk.out]; decide) (by rw [hk.out]) HA.out
  refine (want_true g A n cap bs 0 4 (134695760) 30 _ HR.out (by omega) hnc (by omega) hcc (by omega) (by omega) n0).mono ?_
  rintro e wx ⟨rfl, hM⟩
  have HA := Lib.hid (HA.out.trans hM.1)
  have HT := Lib.hid (hM.1.whole HT.out (by omega))
  have HR := Lib.hid (hM.rdr HR.out)
  clear hM
  go_wp2_with fail
  rcases Nat.lt_or_ge n 8 with l1 | l1
  · have b1 : decide (8 ≤ n) = false := by simp; omega
    have hk := Lib.hid (show K = 4 by rw [← HK.out]; simp [bad, dl, wid, b0, n0, b1])
    clear b1
    refine (int_short g A n cap bs 4 4 _ HR.out (by omega) (by omega) (by omega) (by omega) (by omega)).mono ?_
    rintro e w20 ⟨rfl, hb⟩
    have HA := Lib.hid (HA.out.trans (Alone.of_below hb g))
    clear hb
    go_wp2
    simp [bodyPost]
    exact RdQ.no (by rw [hk.out]; decide) (by rw [hk.out]) HA.out
  have b1 : decide (8 ≤ n) = true := by simpa using l1
  refine (int_get g A n cap bs 4 4 (c) _ HR.out (by omega) hnc (by omega) hcc (by omega) (by omega) n1).mono ?_
  rintro e wx ⟨rfl, hM⟩
  have HA := Lib.hid (HA.out.trans hM.1)
  have HT := Lib.hid (hM.1.whole HT.out (by omega))
  have HR := Lib.hid (hM.rdr HR.out)
  clear hM
  go_wp2_with fail
  obtain ⟨T, hT⟩ : ∃ T, wx.heap.size = T := ⟨_, rfl⟩
  have hwT : w.heap.size < T := by have := HT.out.lt; omega
  have HA := Lib.hid (HA.out.alloc (.cells #[.int .u32 (c : Nat), .int .i64 0, .int .i64 0, .bool false] 24))
  have HT := Lib.hid (HT.out.alloc (.cells #[.int .u32 (c : Nat), .int .i64 0, .int .i64 0, .bool false] 24))
  have HR := Lib.hid (HR.out.tail #[.int .u32 (c : Nat), .int .i64 0, .int .i64 0, .bool false])
  rw [hT] at HR ⊢
  generalize wx.alloc (.cells #[.int .u32 (c : Nat), .int .i64 0, .int .i64 0, .bool false] 24) = w9 at HR HT HA ⊢
  clear hT
  refine (WA.out _).mono ?_
  rintro e wy ⟨rfl, rfl⟩
  go_wp2_with fail
  rcases Nat.lt_or_ge n 12 with l2 | l2
  · have b2 : decide (12 ≤ n) = false := by simp; omega
    have hk := Lib.hid (show K = 4 by rw [← HK.out]; simp [bad, dl, wid, b0, n0, b1, b2])
    clear b2
    refine (int_short g A n cap bs 8 4 _ HR.out.rdr (by omega) (by omega) (by omega) (by omega) (by omega)).mono ?_
    rintro e w20 ⟨rfl, hb⟩
    have HA := Lib.hid (HA.out.trans (Alone.of_below hb g))
    clear hb
    go_wp2
    simp [bodyPost]
    exact RdQ.no (by rw [hk.out]; decide) (by rw [hk.out]) HA.out
  have b2 : decide (12 ≤ n) = true := by simpa using l2
  refine (int_get g A n cap bs 8 4 (p) _ HR.out.rdr (by omega) hnc (by omega) hcc (by omega) (by omega) n2).mono ?_
  rintro e wx ⟨rfl, hM⟩
  have HA := Lib.hid (HA.out.trans hM.1)
  have HT := Lib.hid (hM.1.whole HT.out (by omega))
  have HR := Lib.hid (HR.out.moved hM)
  clear hM
  have x0 := HR.out.2.2.1.cell 0
  have x1 := HR.out.2.2.1.cell 1
  have x2 := HR.out.2.2.1.cell 2
  have x3 := HR.out.2.2.1.cell 3
  have y0 := HR.out.2.2.1.free 0
  have y1 := HR.out.2.2.1.free 1
  have y2 := HR.out.2.2.1.free 2
  simp at x0 x1 x2 x3
  go_wp2_with fail
  have HR := Lib.hid (HR.out.store 1 (.int .i64 ip) rfl)
  have HA := Lib.hid (alone_new HA.out (p := ⟨T, 1, none⟩) (by show w.heap.size ≤ T; omega) (.int .i64 ip))
  have HT := Lib.hid (HT.out.other (p := ⟨T, 1, none⟩) (by show w.heap.size ≠ T; omega) (.int .i64 ip))
  refine (WA.out _).mono ?_
  rintro e wy ⟨rfl, rfl⟩
  go_wp2_with fail
  rcases Nat.lt_or_ge n 16 with l3 | l3
  · have b3 : decide (16 ≤ n) = false := by simp; omega
    have hk := Lib.hid (show K = 4 by rw [← HK.out]; simp [bad, dl, wid, b0, n0, b1, b2, b3])
    clear b3
    refine (int_short g A n cap bs 12 4 _ HR.out.rdr (by omega) (by omega) (by omega) (by omega) (by omega)).mono ?_
    rintro e w20 ⟨rfl, hb⟩
    have HA := Lib.hid (HA.out.trans (Alone.of_below hb g))
    clear hb
    go_wp2
    simp [bodyPost]
    exact RdQ.no (by rw [hk.out]; decide) (by rw [hk.out]) HA.out
  have b3 : decide (16 ≤ n) = true := by simpa using l3
  refine (int_get g A n cap bs 12 4 (s) _ HR.out.rdr (by omega) hnc (by omega) hcc (by omega) (by omega) n3).mono ?_
  rintro e wx ⟨rfl, hM⟩
  have HA := Lib.hid (HA.out.trans hM.1)
  have HT := Lib.hid (hM.1.whole HT.out (by omega))
  have HR := Lib.hid (HR.out.moved hM)
  clear hM
  have x0 := HR.out.2.2.1.cell 0
  have x1 := HR.out.2.2.1.cell 1
  have x2 := HR.out.2.2.1.cell 2
  have x3 := HR.out.2.2.1.cell 3
  have y0 := HR.out.2.2.1.free 0
  have y1 := HR.out.2.2.1.free 1
  have y2 := HR.out.2.2.1.free 2
  simp at x0 x1 x2 x3
  have HX := Lib.hid HR.out.2.2.1
  have x0 := HX.out.cell 0
  have x1 := HX.out.cell 1
  have x2 := HX.out.cell 2
  have x3 := HX.out.cell 3
  have r0 := HT.out.cell 0
  have r1 := HT.out.cell 1
  have r2 := HT.out.cell 2
  have r3 := HT.out.cell 3
  have z0 := HT.out.free 0
  have z1 := HT.out.free 1
  have z2 := HT.out.free 2
  have z3 := HT.out.free 3
  simp at x0 x1 x2 x3 r0 r1 r2 r3
  go_wp2
  have HR := Lib.hid (HR.out.store 2 (.int .i64 is) rfl)
  have HA := Lib.hid (alone_new HA.out (p := ⟨T, 2, none⟩) (by show w.heap.size ≤ T; omega) (.int .i64 is))
  have HT := Lib.hid (HT.out.other (p := ⟨T, 2, none⟩) (by show w.heap.size ≠ T; omega) (.int .i64 is))
  have hpl := HR.out.1.lt
  generalize wx.setCell ⟨T, 2, none⟩ (.int .i64 is) = w30 at HR HT HA ⊢
  have HX := Lib.hid (show Whole w30.drew T 24 #[.int .u32 (c : Nat), .int .i64 ip, .int .i64 is, .bool false] from HR.out.2.2.1)
  have HG := Lib.hid (show Whole w30.drew g 53 _ from HR.out.1)
  have HT := Lib.hid (show Whole w30.drew w.heap.size 24 #[.int .u32 0, .int .i64 0, .int .i64 0, .bool false] from HT.out)
  have HA := Lib.hid (show Alone w w30.drew g from HA.out.drew)
  have x0 := HX.out.cell 0
  have x1 := HX.out.cell 1
  have x2 := HX.out.cell 2
  have x3 := HX.out.cell 3
  have r0 := HT.out.cell 0
  have r1 := HT.out.cell 1
  have r2 := HT.out.cell 2
  have r3 := HT.out.cell 3
  have z0 := HT.out.free 0
  have z1 := HT.out.free 1
  have z2 := HT.out.free 2
  have z3 := HT.out.free 3
  simp at x0 x1 x2 x3 r0 r1 r2 r3
  rcases Bool.eq_false_or_eq_true (okD ip is) with hok | hok
  · have hk := Lib.hid (show K = 0 by rw [← HK.out]; simp [bad, dl, wid, b0, n0, b1, b2, b3, hok])
    have CK := Lib.hid (fun w' => (check_any c ip is false w').mono (R' := fun e w'' => e = .returned (.int .i64 0) ∧ Below w'.heap.size w' w'') (fun e w'' h => by rw [hok, if_pos rfl] at h; exact h))
    clear hok
    go_region_law (first
      | (go_simp
         go_at_call 8
         refine (CK.out _).mono ?_
         rintro e w20 ⟨rfl, hb20⟩
         have HX := Lib.hid (HX.out.below' hb20)
         have HG := Lib.hid (HG.out.below' hb20)
         have HT := Lib.hid (HT.out.below' hb20)
         have HA := Lib.hid (HA.out.trans (Alone.of_below hb20 g))
         have x0 := HX.out.cell 0
         have x1 := HX.out.cell 1
         have x2 := HX.out.cell 2
         have x3 := HX.out.cell 3
         have r0 := HT.out.cell 0
         have r1 := HT.out.cell 1
         have r2 := HT.out.cell 2
         have r3 := HT.out.cell 3
         have z0 := HT.out.free 0
         have z1 := HT.out.free 1
         have z2 := HT.out.free 2
         have z3 := HT.out.free 3
         simp at x0 x1 x2 x3 r0 r1 r2 r3
         clear hb20)
      | (go_simp
         go_at_call 27
         refine (must_ok _ _ _ _ _).mono ?_
         rintro e w20 ⟨rfl, hb20⟩
         have HX := Lib.hid (HX.out.below' hb20)
         have HG := Lib.hid (HG.out.below' hb20)
         have HT := Lib.hid (HT.out.below' hb20)
         have HA := Lib.hid (HA.out.trans (Alone.of_below hb20 g))
         have x0 := HX.out.cell 0
         have x1 := HX.out.cell 1
         have x2 := HX.out.cell 2
         have x3 := HX.out.cell 3
         have r0 := HT.out.cell 0
         have r1 := HT.out.cell 1
         have r2 := HT.out.cell 2
         have r3 := HT.out.cell 3
         have z0 := HT.out.free 0
         have z1 := HT.out.free 1
         have z2 := HT.out.free 2
         have z3 := HT.out.free 3
         simp at x0 x1 x2 x3 r0 r1 r2 r3
         clear hb20))
    all_goals
      have HM := Lib.hid (((((HT.out.put 0 (.int .u32 (c : Nat)) rfl).put 1 (.int .i64 ip) rfl).put 2 (.int .i64 is) rfl).put 3 (.bool false) rfl))
      have h0 := HM.out.cell 0
      have h1 := HM.out.cell 1
      have h2 := HM.out.cell 2
      have h3 := HM.out.cell 3
      simp at h0 h1 h2 h3
      go_wp2
      simp [bodyPost, results, Try.results15, go_sem, h0, h1, h2, h3]
      have hgn : g ≠ w.heap.size := by omega
      exact RdQ.yes hk.out (alone_new (alone_new (alone_new (alone_new HA.out (p := ⟨w.heap.size, 0, none⟩) (Nat.le_refl _) _) (p := ⟨w.heap.size, 1, none⟩) (Nat.le_refl _) _) (p := ⟨w.heap.size, 2, none⟩) (Nat.le_refl _) _) (p := ⟨w.heap.size, 3, none⟩) (Nat.le_refl _) _)
        ((((HG.out.other (p := ⟨w.heap.size, 0, none⟩) hgn _).other (p := ⟨w.heap.size, 1, none⟩) hgn _).other (p := ⟨w.heap.size, 2, none⟩) hgn _).other (p := ⟨w.heap.size, 3, none⟩) hgn _)
  · have hk := Lib.hid (show K = 13 by rw [← HK.out]; simp [bad, dl, wid, b0, n0, b1, b2, b3, hok])
    have CK := Lib.hid (fun w' => (check_any c ip is false w').mono (R' := fun e w'' => e = .returned (.int .i64 13) ∧ Below w'.heap.size w' w'') (fun e w'' h => by rw [hok, if_neg (by simp)] at h; exact h))
    clear hok
    refine wp_region_any (by kernel_rfl) ?_
    change wpAny _ _ _ _ _ _ _ (World.drew _)
    refine wpAny_ready (rs := [0, 1]) (by kernel_rfl) (by simp) ?_
    refine AllReady.cons rfl (fun K1 hK => ?_) ?_
    · go_simp
      refine hK _ _ ?_
      clear hK K1
      refine wpAny_ready (rs := [1]) (by kernel_rfl) (by simp) ?_
      refine AllReady.cons rfl (fun K1 hK => ?_) ?_
      · go_simp
        refine hK _ _ ?_
        clear hK K1
        refine wpAny_ready (rs := [2]) (by kernel_rfl) (by simp) ?_
        refine AllReady.cons rfl (fun K1 hK => ?_) ?_
        · go_simp
          refine (CK.out _).mono ?_
          rintro e w20 ⟨rfl, hb20⟩
          have HX := Lib.hid (HX.out.below' hb20)
          have HG := Lib.hid (HG.out.below' hb20)
          have HT := Lib.hid (HT.out.below' hb20)
          have HA := Lib.hid (HA.out.trans (Alone.of_below hb20 g))
          have x0 := HX.out.cell 0
          have x1 := HX.out.cell 1
          have x2 := HX.out.cell 2
          have x3 := HX.out.cell 3
          have r0 := HT.out.cell 0
          have r1 := HT.out.cell 1
          have r2 := HT.out.cell 2
          have r3 := HT.out.cell 3
          have z0 := HT.out.free 0
          have z1 := HT.out.free 1
          have z2 := HT.out.free 2
          have z3 := HT.out.free 3
          simp at x0 x1 x2 x3 r0 r1 r2 r3
          clear hb20
          go_simp
          refine hK _ _ ?_
          clear hK K1
          refine wpAny_ready (rs := [3]) (by kernel_rfl) (by simp) ?_
          refine AllReady.cons rfl (fun K1 hK => ?_) ?_
          · go_simp
            refine (must_bad _ _ _ _ 13 _ (by decide)).mono ?_
            rintro e w20 ⟨rfl, hb20⟩
            have HA := Lib.hid (HA.out.trans (Alone.of_below hb20 g))
            clear hb20
            simp [bodyPost]
            exact RdQ.no (by rw [hk.out]; decide) (by rw [hk.out]) HA.out
          exact AllReady.nil
        exact AllReady.nil
      exact AllReady.nil
    refine AllReady.cons rfl (fun K1 hK => ?_) ?_
    · go_simp
      refine hK _ _ ?_
      clear hK K1
      refine wpAny_ready (rs := [0, 2]) (by kernel_rfl) (by simp) ?_
      refine AllReady.cons rfl (fun K1 hK => ?_) ?_
      · go_simp
        refine hK _ _ ?_
        clear hK K1
        refine wpAny_ready (rs := [2]) (by kernel_rfl) (by simp) ?_
        refine AllReady.cons rfl (fun K1 hK => ?_) ?_
        · go_simp
          refine (CK.out _).mono ?_
          rintro e w20 ⟨rfl, hb20⟩
          have HX := Lib.hid (HX.out.below' hb20)
          have HG := Lib.hid (HG.out.below' hb20)
          have HT := Lib.hid (HT.out.below' hb20)
          have HA := Lib.hid (HA.out.trans (Alone.of_below hb20 g))
          have x0 := HX.out.cell 0
          have x1 := HX.out.cell 1
          have x2 := HX.out.cell 2
          have x3 := HX.out.cell 3
          have r0 := HT.out.cell 0
          have r1 := HT.out.cell 1
          have r2 := HT.out.cell 2
          have r3 := HT.out.cell 3
          have z0 := HT.out.free 0
          have z1 := HT.out.free 1
          have z2 := HT.out.free 2
          have z3 := HT.out.free 3
          simp at x0 x1 x2 x3 r0 r1 r2 r3
          clear hb20
          go_simp
          refine hK _ _ ?_
          clear hK K1
          refine wpAny_ready (rs := [3]) (by kernel_rfl) (by simp) ?_
          refine AllReady.cons rfl (fun K1 hK => ?_) ?_
          · go_simp
            refine (must_bad _ _ _ _ 13 _ (by decide)).mono ?_
            rintro e w20 ⟨rfl, hb20⟩
            have HA := Lib.hid (HA.out.trans (Alone.of_below hb20 g))
            clear hb20
            simp [bodyPost]
            exact RdQ.no (by rw [hk.out]; decide) (by rw [hk.out]) HA.out
          exact AllReady.nil
        exact AllReady.nil
      refine AllReady.cons rfl (fun K1 hK => ?_) ?_
      · go_simp
        refine (CK.out _).mono ?_
        rintro e w20 ⟨rfl, hb20⟩
        have HX := Lib.hid (HX.out.below' hb20)
        have HG := Lib.hid (HG.out.below' hb20)
        have HT := Lib.hid (HT.out.below' hb20)
        have HA := Lib.hid (HA.out.trans (Alone.of_below hb20 g))
        have x0 := HX.out.cell 0
        have x1 := HX.out.cell 1
        have x2 := HX.out.cell 2
        have x3 := HX.out.cell 3
        have r0 := HT.out.cell 0
        have r1 := HT.out.cell 1
        have r2 := HT.out.cell 2
        have r3 := HT.out.cell 3
        have z0 := HT.out.free 0
        have z1 := HT.out.free 1
        have z2 := HT.out.free 2
        have z3 := HT.out.free 3
        simp at x0 x1 x2 x3 r0 r1 r2 r3
        clear hb20
        go_simp
        refine hK _ _ ?_
        clear hK K1
        refine wpAny_ready (rs := [0]) (by kernel_rfl) (by simp) ?_
        refine AllReady.cons rfl (fun K1 hK => ?_) ?_
        · go_simp
          refine hK _ _ ?_
          clear hK K1
          refine wpAny_ready (rs := [3]) (by kernel_rfl) (by simp) ?_
          refine AllReady.cons rfl (fun K1 hK => ?_) ?_
          · go_simp
            refine (must_bad _ _ _ _ 13 _ (by decide)).mono ?_
            rintro e w20 ⟨rfl, hb20⟩
            have HA := Lib.hid (HA.out.trans (Alone.of_below hb20 g))
            clear hb20
            simp [bodyPost]
            exact RdQ.no (by rw [hk.out]; decide) (by rw [hk.out]) HA.out
          exact AllReady.nil
        exact AllReady.nil
      exact AllReady.nil
    exact AllReady.nil
end Go.Proofs.Ytafdflpjfdeohaa
