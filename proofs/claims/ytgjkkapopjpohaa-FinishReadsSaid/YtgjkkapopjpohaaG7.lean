/- The wide record, read. -/
import Derived.Test.YtgjkkapopjpohaaG6
namespace Go.Proofs.Ytgjkkapopjpohaa
open Go.RowKit

set_option maxHeartbeats 4000000 in
theorem wide_read (A : Option Addr) (n c : Nat) (bs : List UInt8) (S : Nat → Prop) (w : World) (N s a : Nat) (hB : Bs w S A n bs) (hn : n ≤ 1000) (h76 : 76 ≤ n) (hnc : n ≤ c) (hcc : c ≤ 9223372036854775807) (hE : bs.drop (n - 76) = cat (cW N s a)) (hN : N ≤ 1000) (hs : s < 4294967295) (ha : a < 4294967295) :
    Calls Try.prog 33 #[.slice A n c] w fun e w' => e = .returned (tl N s a true) ∧ Below w.heap.size w w' := by
  obtain ⟨b, off, rfl, -, -, -⟩ := hB.at_ (i := 0) (by omega)
  have n0 : num (((cat (cW N s a)).drop 0).take 4) = 101075792 := num_cat [] [(44, 8), (813, 2), (45, 2), (0, 8), (N, 8), (N, 8), (s, 8), (a, 8), (117853008, 4), (0, 4), (a + s, 8), (1, 4)] (101075792) 4 (by omega)
  have n1 : num (((cat (cW N s a)).drop 4).take 8) = 44 := num_cat [(101075792, 4)] [(813, 2), (45, 2), (0, 8), (N, 8), (N, 8), (s, 8), (a, 8), (117853008, 4), (0, 4), (a + s, 8), (1, 4)] (44) 8 (by omega)
  have n2 : num (((cat (cW N s a)).drop 12).take 2) = 813 := num_cat [(101075792, 4), (44, 8)] [(45, 2), (0, 8), (N, 8), (N, 8), (s, 8), (a, 8), (117853008, 4), (0, 4), (a + s, 8), (1, 4)] (813) 2 (by omega)
  have n3 : num (((cat (cW N s a)).drop 14).take 2) = 45 := num_cat [(101075792, 4), (44, 8), (813, 2)] [(0, 8), (N, 8), (N, 8), (s, 8), (a, 8), (117853008, 4), (0, 4), (a + s, 8), (1, 4)] (45) 2 (by omega)
  have n4 : num (((cat (cW N s a)).drop 16).take 8) = 0 := num_cat [(101075792, 4), (44, 8), (813, 2), (45, 2)] [(N, 8), (N, 8), (s, 8), (a, 8), (117853008, 4), (0, 4), (a + s, 8), (1, 4)] (0) 8 (by omega)
  have n5 : num (((cat (cW N s a)).drop 24).take 8) = N := num_cat [(101075792, 4), (44, 8), (813, 2), (45, 2), (0, 8)] [(N, 8), (s, 8), (a, 8), (117853008, 4), (0, 4), (a + s, 8), (1, 4)] (N) 8 (by omega)
  have n6 : num (((cat (cW N s a)).drop 32).take 8) = N := num_cat [(101075792, 4), (44, 8), (813, 2), (45, 2), (0, 8), (N, 8)] [(s, 8), (a, 8), (117853008, 4), (0, 4), (a + s, 8), (1, 4)] (N) 8 (by omega)
  have n7 : num (((cat (cW N s a)).drop 40).take 8) = s := num_cat [(101075792, 4), (44, 8), (813, 2), (45, 2), (0, 8), (N, 8), (N, 8)] [(a, 8), (117853008, 4), (0, 4), (a + s, 8), (1, 4)] (s) 8 (by omega)
  have n8 : num (((cat (cW N s a)).drop 48).take 8) = a := num_cat [(101075792, 4), (44, 8), (813, 2), (45, 2), (0, 8), (N, 8), (N, 8), (s, 8)] [(117853008, 4), (0, 4), (a + s, 8), (1, 4)] (a) 8 (by omega)
  have n9 : num (((cat (cW N s a)).drop 56).take 4) = 117853008 := num_cat [(101075792, 4), (44, 8), (813, 2), (45, 2), (0, 8), (N, 8), (N, 8), (s, 8), (a, 8)] [(0, 4), (a + s, 8), (1, 4)] (117853008) 4 (by omega)
  have n10 : num (((cat (cW N s a)).drop 60).take 4) = 0 := num_cat [(101075792, 4), (44, 8), (813, 2), (45, 2), (0, 8), (N, 8), (N, 8), (s, 8), (a, 8), (117853008, 4)] [(a + s, 8), (1, 4)] (0) 4 (by omega)
  have n11 : num (((cat (cW N s a)).drop 64).take 8) = a + s := num_cat [(101075792, 4), (44, 8), (813, 2), (45, 2), (0, 8), (N, 8), (N, 8), (s, 8), (a, 8), (117853008, 4), (0, 4)] [(1, 4)] (a + s) 8 (by omega)
  have n12 : num (((cat (cW N s a)).drop 72).take 4) = 1 := num_cat [(101075792, 4), (44, 8), (813, 2), (45, 2), (0, 8), (N, 8), (N, 8), (s, 8), (a, 8), (117853008, 4), (0, 4), (a + s, 8)] [] (1) 4 (by omega)
  obtain ⟨m, hm⟩ : ∃ m, n - 76 = m := ⟨_, rfl⟩
  have hcut := hB.cut (k := m) (c := c) (by omega) hnc
  rw [if_neg (by omega), ← hm, hE, hm, show n - m = 76 by omega] at hcut
  obtain ⟨E, hEE⟩ : ∃ E, cat (cW N s a) = E := ⟨_, rfl⟩
  rw [hEE] at hcut n0 n1 n2 n3 n4 n5 n6 n7 n8 n9 n10 n11 n12
  have hcut := Bs.alloc hcut (.cells #[.int .i64 0, .int .i64 0, .int .i64 0, .bool false] 23)
  have HO := Lib.hid (over_any (some ⟨b, off + m, none⟩) 76 (c - m) E S _ hcut (by omega))
  have d1 : decide (76 ≤ n) = true := by simpa using h76
  have d1' : decide ((76 : Int) ≤ (n : Int)) = true := by simp; omega
  have e1 : IntKind.i64.wrap ((n : Int) - 76) = (m : Int) := by rw [IntWalk.i64_in _ (by omega)]; omega
  have e1' : ((n : Int) - 76) = (m : Int) := by omega
  have e2 : n - m = 76 := by omega
  have hmn : (m : Int) ≤ (n : Int) := by omega
  have hcm : ¬ c = m := by omega
  have HT := Lib.hid (Whole.new w 23 #[.int .i64 0, .int .i64 0, .int .i64 0, .bool false] rfl)
  have HB0 := Lib.hid ((Below.refl w.heap.size w).alloc (Nat.le_refl _) (.cells #[.int .i64 0, .int .i64 0, .int .i64 0, .bool false] 23))
  have kN : IntKind.i64.wrap (N : Int) = (N : Int) := IntWalk.i64_in _ (by omega)
  have kN' : IntKind.u64.wrap (N : Int) = (N : Int) := IntWalk.u64_in _ (by omega)
  have ks : IntKind.i64.wrap (s : Int) = (s : Int) := IntWalk.i64_in _ (by omega)
  have ka : IntKind.i64.wrap (a : Int) = (a : Int) := IntWalk.i64_in _ (by omega)
  have kas : IntKind.i64.wrap ((a : Int) + (s : Int)) = (a : Int) + (s : Int) := IntWalk.i64_in _ (by omega)
  have kas' : IntKind.u64.wrap ((a : Int) + (s : Int)) = (a : Int) + (s : Int) := IntWalk.u64_in _ (by omega)
  clear hE hEE hcut hm
  go_enter Try.func33, Try.ntmps33
  go_wp2_with fail
  refine (check_true 4 _).mono ?_
  rintro e wx ⟨rfl, rfl⟩
  go_wp2_with fail
  refine HO.out.mono ?_
  rintro e w2 ⟨A2, c2, g, rfl, hg0, hR, hc1, hc2, hb⟩
  have hg : w.heap.size ≤ g := by simp at hg0; omega
  have hgR : w.heap.size < g := by simp at hg0; omega
  have HR := Lib.hid hR
  have HB := Lib.hid (HB0.out.trans (hb.mono HB0.out.size))
  have HT := Lib.hid (HT.out.below' hb)
  clear hR hb HO hg0
  go_wp2_with fail
  refine (want_true g A2 76 c2 E 0 4 (101075792) 30 _ HR.out (by omega) hc1 (by omega) hc2 (by omega) (by omega) n0).mono ?_
  rintro e wx ⟨rfl, hM⟩
  have HB := Lib.hid (hM.1.below HB.out hg HB.out.size)
  have HR := Lib.hid (hM.rdr HR.out)
  have HT := Lib.hid (hM.1.whole HT.out (by omega))
  clear hM
  go_wp2_with fail
  refine (want_true g A2 76 c2 E 4 8 (44) 39 _ HR.out (by omega) hc1 (by omega) hc2 (by omega) (by omega) n1).mono ?_
  rintro e wx ⟨rfl, hM⟩
  have HB := Lib.hid (hM.1.below HB.out hg HB.out.size)
  have HR := Lib.hid (hM.rdr HR.out)
  have HT := Lib.hid (hM.1.whole HT.out (by omega))
  clear hM
  go_wp2_with fail
  refine (want_true g A2 76 c2 E 12 2 (813) 31 _ HR.out (by omega) hc1 (by omega) hc2 (by omega) (by omega) n2).mono ?_
  rintro e wx ⟨rfl, hM⟩
  have HB := Lib.hid (hM.1.below HB.out hg HB.out.size)
  have HR := Lib.hid (hM.rdr HR.out)
  have HT := Lib.hid (hM.1.whole HT.out (by omega))
  clear hM
  go_wp2_with fail
  refine (want_true g A2 76 c2 E 14 2 (45) 31 _ HR.out (by omega) hc1 (by omega) hc2 (by omega) (by omega) n3).mono ?_
  rintro e wx ⟨rfl, hM⟩
  have HB := Lib.hid (hM.1.below HB.out hg HB.out.size)
  have HR := Lib.hid (hM.rdr HR.out)
  have HT := Lib.hid (hM.1.whole HT.out (by omega))
  clear hM
  go_wp2_with fail
  refine (want_true g A2 76 c2 E 16 8 (0) 39 _ HR.out (by omega) hc1 (by omega) hc2 (by omega) (by omega) n4).mono ?_
  rintro e wx ⟨rfl, hM⟩
  have HB := Lib.hid (hM.1.below HB.out hg HB.out.size)
  have HR := Lib.hid (hM.rdr HR.out)
  have HT := Lib.hid (hM.1.whole HT.out (by omega))
  clear hM
  go_wp2_with fail
  obtain ⟨T, hT⟩ : ∃ T, wx.heap.size = T := ⟨_, rfl⟩
  have hwT : w.heap.size < T := by have := HT.out.lt; omega
  have HB := Lib.hid (HB.out.alloc HB.out.size (.cells #[.int .i64 0, .int .i64 0, .int .i64 0, .bool true] 23))
  have HT := Lib.hid (HT.out.alloc (.cells #[.int .i64 0, .int .i64 0, .int .i64 0, .bool true] 23))
  have HR := Lib.hid (HR.out.tail #[.int .i64 0, .int .i64 0, .int .i64 0, .bool true])
  rw [hT] at HR ⊢
  generalize wx.alloc (.cells #[.int .i64 0, .int .i64 0, .int .i64 0, .bool true] 23) = w9 at HR HT HB ⊢
  clear hT
  refine (int_get g A2 76 c2 E 24 8 (N) _ HR.out.rdr (by omega) hc1 (by omega) hc2 (by omega) (by omega) n5).mono ?_
  rintro e wx ⟨rfl, hM⟩
  have HB := Lib.hid (hM.1.below HB.out hg HB.out.size)
  have HR := Lib.hid (HR.out.moved hM)
  have HT := Lib.hid (hM.1.whole HT.out (by omega))
  clear hM
  have x0 := HR.out.2.2.1.cell 0
  have x1 := HR.out.2.2.1.cell 1
  have x2 := HR.out.2.2.1.cell 2
  have x3 := HR.out.2.2.1.cell 3
  have y0 := HR.out.2.2.1.free 0
  have y1 := HR.out.2.2.1.free 1
  have y2 := HR.out.2.2.1.free 2
  simp at x0 x1 x2 x3
  go_wp2_with fail
  have HR := Lib.hid (HR.out.store 0 (.int .i64 (N : Nat)) rfl)
  have HB := Lib.hid (HB.out.setCell (p := ⟨T, 0, none⟩) (by show w.heap.size ≤ T; omega) (.int .i64 (N : Nat)))
  have HT := Lib.hid (HT.out.other (p := ⟨T, 0, none⟩) (by show w.heap.size ≠ T; omega) (.int .i64 (N : Nat)))
  refine (want_true g A2 76 c2 E 32 8 (N) 39 _ HR.out.rdr (by omega) hc1 (by omega) hc2 (by omega) (by omega) n6).mono ?_
  rintro e wx ⟨rfl, hM⟩
  have HB := Lib.hid (hM.1.below HB.out hg HB.out.size)
  have HR := Lib.hid (HR.out.moved hM)
  have HT := Lib.hid (hM.1.whole HT.out (by omega))
  clear hM
  have x0 := HR.out.2.2.1.cell 0
  have x1 := HR.out.2.2.1.cell 1
  have x2 := HR.out.2.2.1.cell 2
  have x3 := HR.out.2.2.1.cell 3
  have y0 := HR.out.2.2.1.free 0
  have y1 := HR.out.2.2.1.free 1
  have y2 := HR.out.2.2.1.free 2
  simp at x0 x1 x2 x3
  go_wp2_with fail
  refine (int_get g A2 76 c2 E 40 8 (s) _ HR.out.rdr (by omega) hc1 (by omega) hc2 (by omega) (by omega) n7).mono ?_
  rintro e wx ⟨rfl, hM⟩
  have HB := Lib.hid (hM.1.below HB.out hg HB.out.size)
  have HR := Lib.hid (HR.out.moved hM)
  have HT := Lib.hid (hM.1.whole HT.out (by omega))
  clear hM
  have x0 := HR.out.2.2.1.cell 0
  have x1 := HR.out.2.2.1.cell 1
  have x2 := HR.out.2.2.1.cell 2
  have x3 := HR.out.2.2.1.cell 3
  have y0 := HR.out.2.2.1.free 0
  have y1 := HR.out.2.2.1.free 1
  have y2 := HR.out.2.2.1.free 2
  simp at x0 x1 x2 x3
  go_wp2_with fail
  refine (int_get g A2 76 c2 E 48 8 (a) _ HR.out.rdr (by omega) hc1 (by omega) hc2 (by omega) (by omega) n8).mono ?_
  rintro e wx ⟨rfl, hM⟩
  have HB := Lib.hid (hM.1.below HB.out hg HB.out.size)
  have HR := Lib.hid (HR.out.moved hM)
  have HT := Lib.hid (hM.1.whole HT.out (by omega))
  clear hM
  have x0 := HR.out.2.2.1.cell 0
  have x1 := HR.out.2.2.1.cell 1
  have x2 := HR.out.2.2.1.cell 2
  have x3 := HR.out.2.2.1.cell 3
  have y0 := HR.out.2.2.1.free 0
  have y1 := HR.out.2.2.1.free 1
  have y2 := HR.out.2.2.1.free 2
  simp at x0 x1 x2 x3
  go_wp2_with fail
  have HR := Lib.hid (HR.out.store 1 (.int .i64 (s : Nat)) rfl)
  have HB := Lib.hid (HB.out.setCell (p := ⟨T, 1, none⟩) (by show w.heap.size ≤ T; omega) (.int .i64 (s : Nat)))
  have HT := Lib.hid (HT.out.other (p := ⟨T, 1, none⟩) (by show w.heap.size ≠ T; omega) (.int .i64 (s : Nat)))
  have HR := Lib.hid (HR.out.store 2 (.int .i64 (a : Nat)) rfl)
  have HB := Lib.hid (HB.out.setCell (p := ⟨T, 2, none⟩) (by show w.heap.size ≤ T; omega) (.int .i64 (a : Nat)))
  have HT := Lib.hid (HT.out.other (p := ⟨T, 2, none⟩) (by show w.heap.size ≠ T; omega) (.int .i64 (a : Nat)))
  refine (want_true g A2 76 c2 E 56 4 (117853008) 30 _ HR.out.rdr (by omega) hc1 (by omega) hc2 (by omega) (by omega) n9).mono ?_
  rintro e wx ⟨rfl, hM⟩
  have HB := Lib.hid (hM.1.below HB.out hg HB.out.size)
  have HR := Lib.hid (HR.out.moved hM)
  have HT := Lib.hid (hM.1.whole HT.out (by omega))
  clear hM
  have x0 := HR.out.2.2.1.cell 0
  have x1 := HR.out.2.2.1.cell 1
  have x2 := HR.out.2.2.1.cell 2
  have x3 := HR.out.2.2.1.cell 3
  have y0 := HR.out.2.2.1.free 0
  have y1 := HR.out.2.2.1.free 1
  have y2 := HR.out.2.2.1.free 2
  simp at x0 x1 x2 x3
  go_wp2_with fail
  refine (want_true g A2 76 c2 E 60 4 (0) 39 _ HR.out.rdr (by omega) hc1 (by omega) hc2 (by omega) (by omega) n10).mono ?_
  rintro e wx ⟨rfl, hM⟩
  have HB := Lib.hid (hM.1.below HB.out hg HB.out.size)
  have HR := Lib.hid (HR.out.moved hM)
  have HT := Lib.hid (hM.1.whole HT.out (by omega))
  clear hM
  have x0 := HR.out.2.2.1.cell 0
  have x1 := HR.out.2.2.1.cell 1
  have x2 := HR.out.2.2.1.cell 2
  have x3 := HR.out.2.2.1.cell 3
  have y0 := HR.out.2.2.1.free 0
  have y1 := HR.out.2.2.1.free 1
  have y2 := HR.out.2.2.1.free 2
  simp at x0 x1 x2 x3
  go_wp2_with fail
  refine (want_true g A2 76 c2 E 64 8 (a + s) 39 _ HR.out.rdr (by omega) hc1 (by omega) hc2 (by omega) (by omega) n11).mono ?_
  rintro e wx ⟨rfl, hM⟩
  have HB := Lib.hid (hM.1.below HB.out hg HB.out.size)
  have HR := Lib.hid (HR.out.moved hM)
  have HT := Lib.hid (hM.1.whole HT.out (by omega))
  clear hM
  have x0 := HR.out.2.2.1.cell 0
  have x1 := HR.out.2.2.1.cell 1
  have x2 := HR.out.2.2.1.cell 2
  have x3 := HR.out.2.2.1.cell 3
  have y0 := HR.out.2.2.1.free 0
  have y1 := HR.out.2.2.1.free 1
  have y2 := HR.out.2.2.1.free 2
  simp at x0 x1 x2 x3
  go_wp2_with fail
  refine (want_true g A2 76 c2 E 72 4 (1) 39 _ HR.out.rdr (by omega) hc1 (by omega) hc2 (by omega) (by omega) n12).mono ?_
  rintro e wx ⟨rfl, hM⟩
  have HB := Lib.hid (hM.1.below HB.out hg HB.out.size)
  have HR := Lib.hid (HR.out.moved hM)
  have HT := Lib.hid (hM.1.whole HT.out (by omega))
  clear hM
  have x0 := HR.out.2.2.1.cell 0
  have x1 := HR.out.2.2.1.cell 1
  have x2 := HR.out.2.2.1.cell 2
  have x3 := HR.out.2.2.1.cell 3
  have y0 := HR.out.2.2.1.free 0
  have y1 := HR.out.2.2.1.free 1
  have y2 := HR.out.2.2.1.free 2
  simp at x0 x1 x2 x3
  have y3 := HR.out.2.2.1.free 3
  have r0 := HT.out.cell 0
  have r1 := HT.out.cell 1
  have r2 := HT.out.cell 2
  have r3 := HT.out.cell 3
  have z0 := HT.out.free 0
  have z1 := HT.out.free 1
  have z2 := HT.out.free 2
  have z3 := HT.out.free 3
  simp at r0 r1 r2 r3
  have HM := Lib.hid (((((HT.out.put 0 (.int .i64 (N : Nat)) rfl).put 1 (.int .i64 (s : Nat)) rfl).put 2 (.int .i64 (a : Nat)) rfl).put 3 (.bool true) rfl))
  have h0 := HM.out.cell 0
  have h1 := HM.out.cell 1
  have h2 := HM.out.cell 2
  have h3 := HM.out.cell 3
  simp at h0 h1 h2 h3
  go_wp2
  simp [bodyPost, results, Try.results33, go_sem, h0, h1, h2, h3]
  exact (((HB.out.setCell (by show w.heap.size ≤ w.heap.size; omega) _).setCell (by show w.heap.size ≤ w.heap.size; omega) _).setCell (by show w.heap.size ≤ w.heap.size; omega) _).setCell (by show w.heap.size ≤ w.heap.size; omega) _
end Go.Proofs.Ytgjkkapopjpohaa
