/- Any wide record, read. -/
import Derived.Test.YtgjkkapopjpohaaG10
namespace Go.Proofs.Ytgjkkapopjpohaa
open Go.RowKit

def bad : List (Bool × Int) → Int
  | [] => 0
  | (b, c) :: l => if b = true then bad l else c
def wl (E : List UInt8) (N M : Nat) : List (Bool × Int) := [(num (E.take 4) == 101075792, 30), (num ((E.drop 4).take 8) == 44, 39), (num ((E.drop 12).take 2) == 813, 31), (num ((E.drop 14).take 2) == 45, 31), (num ((E.drop 16).take 8) == 0, 39), (num ((E.drop 32).take 8) == N, 39), (num ((E.drop 56).take 4) == 117853008, 30), (num ((E.drop 60).take 4) == 0, 39), (num ((E.drop 64).take 8) == M, 39), (num ((E.drop 72).take 4) == 1, 39)]
def RdP (B : Nat) (w : World) (k : Int) (v : Value) (e : Ending) (w' : World) : Prop := e = (if k = 0 then .returned v else .panicked [{ v := fault k, recovered := false }]) ∧ Below B w w'
theorem w64 (n : Int) : wrap64 n = IntKind.i64.wrap n := by rw [IntKind.wrap_i64]; unfold wrap64; rfl
theorem u64_i64 (N : Nat) (h : N < 18446744073709551616) : IntKind.u64.wrap (IntKind.i64.wrap (N : Int)) = (N : Int) := by
  rw [IntKind.wrap_u64, IntKind.wrap_i64]; omega
theorem u64_sum (a s : Nat) : IntKind.u64.wrap (IntKind.i64.wrap (IntKind.i64.wrap (a : Int) + IntKind.i64.wrap (s : Int))) = (((a + s) % 18446744073709551616 : Nat) : Int) := by
  simp only [IntKind.wrap_u64, IntKind.wrap_i64]; omega
theorem num_bd (E : List UInt8) (p k n : Nat) (h : 256 ^ k = n) : num ((E.drop p).take k) < n := by
  have h1 := num_lt ((E.drop p).take k)
  have h2 : ((E.drop p).take k).length ≤ k := by rw [List.length_take]; omega
  have h3 := Nat.pow_le_pow_right (show 0 < 256 by omega) h2
  omega
theorem w_short (A : Option Addr) (n c : Nat) (w : World) (hn : n < 76) :
    Calls Try.prog 33 #[.slice A n c] w fun e w' => e = .panicked [{ v := fault 4, recovered := false }] ∧ Below w.heap.size w w' := by
  have d1 : decide (76 ≤ n) = false := by simp; omega
  have d1' : decide ((76 : Int) ≤ (n : Int)) = false := by simp; omega
  have HB0 := Lib.hid ((Below.refl w.heap.size w).alloc (Nat.le_refl _) (.cells #[.int .i64 0, .int .i64 0, .int .i64 0, .bool false] 23))
  go_enter Try.func33, Try.ntmps33
  go_wp2_with fail
  refine (check_false 4 _).mono ?_
  rintro e wx ⟨rfl, rfl⟩
  go_wp2
  simp [bodyPost]
  exact HB0.out
set_option maxHeartbeats 4000000 in
theorem wread_any (A : Option Addr) (n c : Nat) (bs : List UInt8) (S : Nat → Prop) (w : World) (E : List UInt8) (N s a M : Nat) (iN is ia : Int) (K : Int) (hB : Bs w S A n bs) (hn : n ≤ 1000) (h76 : 76 ≤ n) (hnc : n ≤ c) (hcc : c ≤ 9223372036854775807) (hE : bs.drop (n - 76) = E)
    (n5 : num ((E.drop 24).take 8) = N) (n7 : num ((E.drop 40).take 8) = s) (n8 : num ((E.drop 48).take 8) = a) (hM : (a + s) % 18446744073709551616 = M) (hiN : IntKind.i64.wrap (N : Int) = iN) (his : IntKind.i64.wrap (s : Int) = is) (hia : IntKind.i64.wrap (a : Int) = ia) (hK : bad (wl E N M) = K) :
    Calls Try.prog 33 #[.slice A n c] w (RdP w.heap.size w K (tl iN is ia true)) := by
  obtain ⟨b, off, rfl, -, -, -⟩ := hB.at_ (i := 0) (by omega)
  obtain ⟨m, hm⟩ : ∃ m, n - 76 = m := ⟨_, rfl⟩
  have hcut := hB.cut (k := m) (c := c) (by omega) hnc
  rw [if_neg (by omega), ← hm, hE, hm, show n - m = 76 by omega] at hcut
  have hcut := Bs.alloc hcut (.cells #[.int .i64 0, .int .i64 0, .int .i64 0, .bool false] 23)
  have HO := Lib.hid (over_any (some ⟨b, off + m, none⟩) 76 (c - m) E S _ hcut (by omega))
  have d1 : decide (76 ≤ n) = true := by simpa using h76
  have d1' : decide ((76 : Int) ≤ (n : Int)) = true := by simp; omega
  have e1 : IntKind.i64.wrap ((n : Int) - 76) = (m : Int) := by rw [IntWalk.i64_in _ (by omega)]; omega
  have e1' : ((n : Int) - 76) = (m : Int) := by omega
  have e2 : n - m = 76 := by omega
  have hmn : (m : Int) ≤ (n : Int) := by omega
  have hcm : ¬ c = m := by omega
  have HT := Lib.hid (Whole.new w 23 #[.int .i64 0, .int .i64 0, .int .i64 0, .bool false] rfl)
  have HB0 := Lib.hid ((Below.refl w.heap.size w).alloc (Nat.le_refl _) (.cells #[.int .i64 0, .int .i64 0, .int .i64 0, .bool false] 23))
  have HK := Lib.hid hK
  have hNb : N < 18446744073709551616 := n5 ▸ num_bd E _ 8 _ (by decide)
  have hsb : s < 18446744073709551616 := n7 ▸ num_bd E _ 8 _ (by decide)
  have hab : a < 18446744073709551616 := n8 ▸ num_bd E _ 8 _ (by decide)
  have kN' : IntKind.u64.wrap iN = (N : Int) := by rw [← hiN]; exact u64_i64 N hNb
  obtain ⟨iq, hiq⟩ : ∃ q, IntKind.i64.wrap (ia + is) = q := ⟨_, rfl⟩
  have kas' : IntKind.u64.wrap iq = (M : Int) := by rw [← hiq, ← hia, ← his, ← hM]; exact u64_sum a s
  have kN2 : wrap64 (N : Int) = iN := by rw [← hiN, w64]
  have ks2 : wrap64 (s : Int) = is := by rw [← his, w64]
  have ka2 : wrap64 (a : Int) = ia := by rw [← hia, w64]
  have kq2 : wrap64 (ia + is) = iq := by rw [← hiq, w64]
  clear hE hcut hm hM hK hNb hsb hab
  go_enter Try.func33, Try.ntmps33
  go_wp2_with fail
  refine (check_true 4 _).mono ?_
  rintro e wx ⟨rfl, rfl⟩
  go_wp2_with fail
  refine HO.out.mono ?_
  rintro e w2 ⟨A2, c2, g, rfl, hg0, hR, hc1, hc2, hb⟩
  have hg : w.heap.size ≤ g := by simp at hg0; omega
  have hgR : w.heap.size < g := by simp at hg0; omega
  have HR := Lib.hid hR
  have HB := Lib.hid (HB0.out.trans (hb.mono HB0.out.size))
  have HT := Lib.hid (HT.out.below' hb)
  clear hR hb HO hg0
  go_wp2_with fail
  rcases Decidable.em (num (E.take 4) = 101075792) with n0 | n0
  rotate_left
  · refine (want_false g A2 76 c2 E 0 4 (101075792) 30 _ HR.out (by omega) hc1 (by omega) hc2 (by omega) (by omega) n0).mono ?_
    rintro e w20 ⟨rfl, hMv⟩
    have HB := Lib.hid (hMv.1.below HB.out hg HB.out.size)
    have hk := Lib.hid (show K = 30 by rw [← HK.out]; simp [bad, wl, n0])
    clear hMv
    go_wp2
    simp [bodyPost]
    exact ⟨by rw [hk.out]; rfl, HB.out⟩
  refine (want_true g A2 76 c2 E 0 4 (101075792) 30 _ HR.out (by omega) hc1 (by omega) hc2 (by omega) (by omega) n0).mono ?_
  rintro e wx ⟨rfl, hM⟩
  have HB := Lib.hid (hM.1.below HB.out hg HB.out.size)
  have HR := Lib.hid (hM.rdr HR.out)
  have HT := Lib.hid (hM.1.whole HT.out (by omega))
  clear hM
  go_wp2_with fail
  rcases Decidable.em (num ((E.drop 4).take 8) = 44) with n1 | n1
  rotate_left
  · refine (want_false g A2 76 c2 E 4 8 (44) 39 _ HR.out (by omega) hc1 (by omega) hc2 (by omega) (by omega) n1).mono ?_
    rintro e w20 ⟨rfl, hMv⟩
    have HB := Lib.hid (hMv.1.below HB.out hg HB.out.size)
    have hk := Lib.hid (show K = 39 by rw [← HK.out]; simp [bad, wl, n0, n1])
    clear hMv
    go_wp2
    simp [bodyPost]
    exact ⟨by rw [hk.out]; rfl, HB.out⟩
  refine (want_true g A2 76 c2 E 4 8 (44) 39 _ HR.out (by omega) hc1 (by omega) hc2 (by omega) (by omega) n1).mono ?_
  rintro e wx ⟨rfl, hM⟩
  have HB := Lib.hid (hM.1.below HB.out hg HB.out.size)
  have HR := Lib.hid (hM.rdr HR.out)
  have HT := Lib.hid (hM.1.whole HT.out (by omega))
  clear hM
  go_wp2_with fail
  rcases Decidable.em (num ((E.drop 12).take 2) = 813) with n2 | n2
  rotate_left
  · refine (want_false g A2 76 c2 E 12 2 (813) 31 _ HR.out (by omega) hc1 (by omega) hc2 (by omega) (by omega) n2).mono ?_
    rintro e w20 ⟨rfl, hMv⟩
    have HB := Lib.hid (hMv.1.below HB.out hg HB.out.size)
    have hk := Lib.hid (show K = 31 by rw [← HK.out]; simp [bad, wl, n0, n1, n2])
    clear hMv
    go_wp2
    simp [bodyPost]
    exact ⟨by rw [hk.out]; rfl, HB.out⟩
  refine (want_true g A2 76 c2 E 12 2 (813) 31 _ HR.out (by omega) hc1 (by omega) hc2 (by omega) (by omega) n2).mono ?_
  rintro e wx ⟨rfl, hM⟩
  have HB := Lib.hid (hM.1.below HB.out hg HB.out.size)
  have HR := Lib.hid (hM.rdr HR.out)
  have HT := Lib.hid (hM.1.whole HT.out (by omega))
  clear hM
  go_wp2_with fail
  rcases Decidable.em (num ((E.drop 14).take 2) = 45) with n3 | n3
  rotate_left
  · refine (want_false g A2 76 c2 E 14 2 (45) 31 _ HR.out (by omega) hc1 (by omega) hc2 (by omega) (by omega) n3).mono ?_
    rintro e w20 ⟨rfl, hMv⟩
    have HB := Lib.hid (hMv.1.below HB.out hg HB.out.size)
    have hk := Lib.hid (show K = 31 by rw [← HK.out]; simp [bad, wl, n0, n1, n2, n3])
    clear hMv
    go_wp2
    simp [bodyPost]
    exact ⟨by rw [hk.out]; rfl, HB.out⟩
  refine (want_true g A2 76 c2 E 14 2 (45) 31 _ HR.out (by omega) hc1 (by omega) hc2 (by omega) (by omega) n3).mono ?_
  rintro e wx ⟨rfl, hM⟩
  have HB := Lib.hid (hM.1.below HB.out hg HB.out.size)
  have HR := Lib.hid (hM.rdr HR.out)
  have HT := Lib.hid (hM.1.whole HT.out (by omega))
  clear hM
  go_wp2_with fail
  rcases Decidable.em (num ((E.drop 16).take 8) = 0) with n4 | n4
  rotate_left
  · refine (want_false g A2 76 c2 E 16 8 (0) 39 _ HR.out (by omega) hc1 (by omega) hc2 (by omega) (by omega) n4).mono ?_
    rintro e w20 ⟨rfl, hMv⟩
    have HB := Lib.hid (hMv.1.below HB.out hg HB.out.size)
    have hk := Lib.hid (show K = 39 by rw [← HK.out]; simp [bad, wl, n0, n1, n2, n3, n4])
    clear hMv
    go_wp2
    simp [bodyPost]
    exact ⟨by rw [hk.out]; rfl, HB.out⟩
  refine (want_true g A2 76 c2 E 16 8 (0) 39 _ HR.out (by omega) hc1 (by omega) hc2 (by omega) (by omega) n4).mono ?_
  rintro e wx ⟨rfl, hM⟩
  have HB := Lib.hid (hM.1.below HB.out hg HB.out.size)
  have HR := Lib.hid (hM.rdr HR.out)
  have HT := Lib.hid (hM.1.whole HT.out (by omega))
  clear hM
  go_wp2_with fail
  obtain ⟨T, hT⟩ : ∃ T, wx.heap.size = T := ⟨_, rfl⟩
  have hwT : w.heap.size < T := by have := HT.out.lt; omega
  have HB := Lib.hid (HB.out.alloc HB.out.size (.cells #[.int .i64 0, .int .i64 0, .int .i64 0, .bool true] 23))
  have HT := Lib.hid (HT.out.alloc (.cells #[.int .i64 0, .int .i64 0, .int .i64 0, .bool true] 23))
  have HR := Lib.hid (HR.out.tail #[.int .i64 0, .int .i64 0, .int .i64 0, .bool true])
  rw [hT] at HR ⊢
  generalize wx.alloc (.cells #[.int .i64 0, .int .i64 0, .int .i64 0, .bool true] 23) = w9 at HR HT HB ⊢
  clear hT
  refine (int_get g A2 76 c2 E 24 8 (N) _ HR.out.rdr (by omega) hc1 (by omega) hc2 (by omega) (by omega) n5).mono ?_
  rintro e wx ⟨rfl, hM⟩
  have HB := Lib.hid (hM.1.below HB.out hg HB.out.size)
  have HR := Lib.hid (HR.out.moved hM)
  have HT := Lib.hid (hM.1.whole HT.out (by omega))
  clear hM
  have x0 := HR.out.2.2.1.cell 0
  have x1 := HR.out.2.2.1.cell 1
  have x2 := HR.out.2.2.1.cell 2
  have x3 := HR.out.2.2.1.cell 3
  have y0 := HR.out.2.2.1.free 0
  have y1 := HR.out.2.2.1.free 1
  have y2 := HR.out.2.2.1.free 2
  simp at x0 x1 x2 x3
  go_wp2_with fail
  have HR := Lib.hid (HR.out.store 0 (.int .i64 iN) rfl)
  have HB := Lib.hid (HB.out.setCell (p := ⟨T, 0, none⟩) (by show w.heap.size ≤ T; omega) (.int .i64 iN))
  have HT := Lib.hid (HT.out.other (p := ⟨T, 0, none⟩) (by show w.heap.size ≠ T; omega) (.int .i64 iN))
  rcases Decidable.em (num ((E.drop 32).take 8) = N) with n6 | n6
  rotate_left
  · refine (want_false g A2 76 c2 E 32 8 (N) 39 _ HR.out.rdr (by omega) hc1 (by omega) hc2 (by omega) (by omega) n6).mono ?_
    rintro e w20 ⟨rfl, hMv⟩
    have HB := Lib.hid (hMv.1.below HB.out hg HB.out.size)
    have hk := Lib.hid (show K = 39 by rw [← HK.out]; simp [bad, wl, n0, n1, n2, n3, n4, n6])
    clear hMv
    go_wp2
    simp [bodyPost]
    exact ⟨by rw [hk.out]; rfl, HB.out⟩
  refine (want_true g A2 76 c2 E 32 8 (N) 39 _ HR.out.rdr (by omega) hc1 (by omega) hc2 (by omega) (by omega) n6).mono ?_
  rintro e wx ⟨rfl, hM⟩
  have HB := Lib.hid (hM.1.below HB.out hg HB.out.size)
  have HR := Lib.hid (HR.out.moved hM)
  have HT := Lib.hid (hM.1.whole HT.out (by omega))
  clear hM
  have x0 := HR.out.2.2.1.cell 0
  have x1 := HR.out.2.2.1.cell 1
  have x2 := HR.out.2.2.1.cell 2
  have x3 := HR.out.2.2.1.cell 3
  have y0 := HR.out.2.2.1.free 0
  have y1 := HR.out.2.2.1.free 1
  have y2 := HR.out.2.2.1.free 2
  simp at x0 x1 x2 x3
  go_wp2_with fail
  refine (int_get g A2 76 c2 E 40 8 (s) _ HR.out.rdr (by omega) hc1 (by omega) hc2 (by omega) (by omega) n7).mono ?_
  rintro e wx ⟨rfl, hM⟩
  have HB := Lib.hid (hM.1.below HB.out hg HB.out.size)
  have HR := Lib.hid (HR.out.moved hM)
  have HT := Lib.hid (hM.1.whole HT.out (by omega))
  clear hM
  have x0 := HR.out.2.2.1.cell 0
  have x1 := HR.out.2.2.1.cell 1
  have x2 := HR.out.2.2.1.cell 2
  have x3 := HR.out.2.2.1.cell 3
  have y0 := HR.out.2.2.1.free 0
  have y1 := HR.out.2.2.1.free 1
  have y2 := HR.out.2.2.1.free 2
  simp at x0 x1 x2 x3
  go_wp2_with fail
  refine (int_get g A2 76 c2 E 48 8 (a) _ HR.out.rdr (by omega) hc1 (by omega) hc2 (by omega) (by omega) n8).mono ?_
  rintro e wx ⟨rfl, hM⟩
  have HB := Lib.hid (hM.1.below HB.out hg HB.out.size)
  have HR := Lib.hid (HR.out.moved hM)
  have HT := Lib.hid (hM.1.whole HT.out (by omega))
  clear hM
  have x0 := HR.out.2.2.1.cell 0
  have x1 := HR.out.2.2.1.cell 1
  have x2 := HR.out.2.2.1.cell 2
  have x3 := HR.out.2.2.1.cell 3
  have y0 := HR.out.2.2.1.free 0
  have y1 := HR.out.2.2.1.free 1
  have y2 := HR.out.2.2.1.free 2
  simp at x0 x1 x2 x3
  go_wp2_with fail
  have HR := Lib.hid (HR.out.store 1 (.int .i64 is) rfl)
  have HB := Lib.hid (HB.out.setCell (p := ⟨T, 1, none⟩) (by show w.heap.size ≤ T; omega) (.int .i64 is))
  have HT := Lib.hid (HT.out.other (p := ⟨T, 1, none⟩) (by show w.heap.size ≠ T; omega) (.int .i64 is))
  have HR := Lib.hid (HR.out.store 2 (.int .i64 ia) rfl)
  have HB := Lib.hid (HB.out.setCell (p := ⟨T, 2, none⟩) (by show w.heap.size ≤ T; omega) (.int .i64 ia))
  have HT := Lib.hid (HT.out.other (p := ⟨T, 2, none⟩) (by show w.heap.size ≠ T; omega) (.int .i64 ia))
  rcases Decidable.em (num ((E.drop 56).take 4) = 117853008) with n9 | n9
  rotate_left
  · refine (want_false g A2 76 c2 E 56 4 (117853008) 30 _ HR.out.rdr (by omega) hc1 (by omega) hc2 (by omega) (by omega) n9).mono ?_
    rintro e w20 ⟨rfl, hMv⟩
    have HB := Lib.hid (hMv.1.below HB.out hg HB.out.size)
    have hk := Lib.hid (show K = 30 by rw [← HK.out]; simp [bad, wl, n0, n1, n2, n3, n4, n6, n9])
    clear hMv
    go_wp2
    simp [bodyPost]
    exact ⟨by rw [hk.out]; rfl, HB.out⟩
  refine (want_true g A2 76 c2 E 56 4 (117853008) 30 _ HR.out.rdr (by omega) hc1 (by omega) hc2 (by omega) (by omega) n9).mono ?_
  rintro e wx ⟨rfl, hM⟩
  have HB := Lib.hid (hM.1.below HB.out hg HB.out.size)
  have HR := Lib.hid (HR.out.moved hM)
  have HT := Lib.hid (hM.1.whole HT.out (by omega))
  clear hM
  have x0 := HR.out.2.2.1.cell 0
  have x1 := HR.out.2.2.1.cell 1
  have x2 := HR.out.2.2.1.cell 2
  have x3 := HR.out.2.2.1.cell 3
  have y0 := HR.out.2.2.1.free 0
  have y1 := HR.out.2.2.1.free 1
  have y2 := HR.out.2.2.1.free 2
  simp at x0 x1 x2 x3
  go_wp2_with fail
  rcases Decidable.em (num ((E.drop 60).take 4) = 0) with n10 | n10
  rotate_left
  · refine (want_false g A2 76 c2 E 60 4 (0) 39 _ HR.out.rdr (by omega) hc1 (by omega) hc2 (by omega) (by omega) n10).mono ?_
    rintro e w20 ⟨rfl, hMv⟩
    have HB := Lib.hid (hMv.1.below HB.out hg HB.out.size)
    have hk := Lib.hid (show K = 39 by rw [← HK.out]; simp [bad, wl, n0, n1, n2, n3, n4, n6, n9, n10])
    clear hMv
    go_wp2
    simp [bodyPost]
    exact ⟨by rw [hk.out]; rfl, HB.out⟩
  refine (want_true g A2 76 c2 E 60 4 (0) 39 _ HR.out.rdr (by omega) hc1 (by omega) hc2 (by omega) (by omega) n10).mono ?_
  rintro e wx ⟨rfl, hM⟩
  have HB := Lib.hid (hM.1.below HB.out hg HB.out.size)
  have HR := Lib.hid (HR.out.moved hM)
  have HT := Lib.hid (hM.1.whole HT.out (by omega))
  clear hM
  have x0 := HR.out.2.2.1.cell 0
  have x1 := HR.out.2.2.1.cell 1
  have x2 := HR.out.2.2.1.cell 2
  have x3 := HR.out.2.2.1.cell 3
  have y0 := HR.out.2.2.1.free 0
  have y1 := HR.out.2.2.1.free 1
  have y2 := HR.out.2.2.1.free 2
  simp at x0 x1 x2 x3
  go_wp2_with fail
  rcases Decidable.em (num ((E.drop 64).take 8) = M) with n11 | n11
  rotate_left
  · refine (want_false g A2 76 c2 E 64 8 (M) 39 _ HR.out.rdr (by omega) hc1 (by omega) hc2 (by omega) (by omega) n11).mono ?_
    rintro e w20 ⟨rfl, hMv⟩
    have HB := Lib.hid (hMv.1.below HB.out hg HB.out.size)
    have hk := Lib.hid (show K = 39 by rw [← HK.out]; simp [bad, wl, n0, n1, n2, n3, n4, n6, n9, n10, n11])
    clear hMv
    go_wp2
    simp [bodyPost]
    exact ⟨by rw [hk.out]; rfl, HB.out⟩
  refine (want_true g A2 76 c2 E 64 8 (M) 39 _ HR.out.rdr (by omega) hc1 (by omega) hc2 (by omega) (by omega) n11).mono ?_
  rintro e wx ⟨rfl, hM⟩
  have HB := Lib.hid (hM.1.below HB.out hg HB.out.size)
  have HR := Lib.hid (HR.out.moved hM)
  have HT := Lib.hid (hM.1.whole HT.out (by omega))
  clear hM
  have x0 := HR.out.2.2.1.cell 0
  have x1 := HR.out.2.2.1.cell 1
  have x2 := HR.out.2.2.1.cell 2
  have x3 := HR.out.2.2.1.cell 3
  have y0 := HR.out.2.2.1.free 0
  have y1 := HR.out.2.2.1.free 1
  have y2 := HR.out.2.2.1.free 2
  simp at x0 x1 x2 x3
  go_wp2_with fail
  rcases Decidable.em (num ((E.drop 72).take 4) = 1) with n12 | n12
  rotate_left
  · refine (want_false g A2 76 c2 E 72 4 (1) 39 _ HR.out.rdr (by omega) hc1 (by omega) hc2 (by omega) (by omega) n12).mono ?_
    rintro e w20 ⟨rfl, hMv⟩
    have HB := Lib.hid (hMv.1.below HB.out hg HB.out.size)
    have hk := Lib.hid (show K = 39 by rw [← HK.out]; simp [bad, wl, n0, n1, n2, n3, n4, n6, n9, n10, n11, n12])
    clear hMv
    go_wp2
    simp [bodyPost]
    exact ⟨by rw [hk.out]; rfl, HB.out⟩
  refine (want_true g A2 76 c2 E 72 4 (1) 39 _ HR.out.rdr (by omega) hc1 (by omega) hc2 (by omega) (by omega) n12).mono ?_
  rintro e wx ⟨rfl, hM⟩
  have HB := Lib.hid (hM.1.below HB.out hg HB.out.size)
  have HR := Lib.hid (HR.out.moved hM)
  have HT := Lib.hid (hM.1.whole HT.out (by omega))
  clear hM
  have x0 := HR.out.2.2.1.cell 0
  have x1 := HR.out.2.2.1.cell 1
  have x2 := HR.out.2.2.1.cell 2
  have x3 := HR.out.2.2.1.cell 3
  have y0 := HR.out.2.2.1.free 0
  have y1 := HR.out.2.2.1.free 1
  have y2 := HR.out.2.2.1.free 2
  simp at x0 x1 x2 x3
  have y3 := HR.out.2.2.1.free 3
  have r0 := HT.out.cell 0
  have r1 := HT.out.cell 1
  have r2 := HT.out.cell 2
  have r3 := HT.out.cell 3
  have z0 := HT.out.free 0
  have z1 := HT.out.free 1
  have z2 := HT.out.free 2
  have z3 := HT.out.free 3
  simp at r0 r1 r2 r3
  have HM := Lib.hid (((((HT.out.put 0 (.int .i64 iN) rfl).put 1 (.int .i64 is) rfl).put 2 (.int .i64 ia) rfl).put 3 (.bool true) rfl))
  have h0 := HM.out.cell 0
  have h1 := HM.out.cell 1
  have h2 := HM.out.cell 2
  have h3 := HM.out.cell 3
  simp at h0 h1 h2 h3
  have hk := Lib.hid (show K = 0 by rw [← HK.out]; simp [bad, wl, n0, n1, n2, n3, n4, n6, n9, n10, n11, n12])
  go_wp2
  simp [bodyPost, results, Try.results33, go_sem, h0, h1, h2, h3]
  exact ⟨by rw [hk.out]; rfl, (((HB.out.setCell (by show w.heap.size ≤ w.heap.size; omega) _).setCell (by show w.heap.size ≤ w.heap.size; omega) _).setCell (by show w.heap.size ≤ w.heap.size; omega) _).setCell (by show w.heap.size ≤ w.heap.size; omega) _⟩
end Go.Proofs.Ytgjkkapopjpohaa
