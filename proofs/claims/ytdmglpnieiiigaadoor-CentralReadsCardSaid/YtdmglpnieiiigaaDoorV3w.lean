/- Any bytes, read as a wide entry. -/
import Derived.Test.YtdmglpnieiiigaaDoorV3
namespace Go.Proofs.YtdmglpnieiiigaaDoor
open Go.RowKit

set_option maxHeartbeats 16000000 in
set_option maxRecDepth 100000 in
theorem cread_wide (g : Nat) (A : Option Addr) (n cap : Nat) (bs : List UInt8) (vr fl me ck dt cr pk sz ln pl : Nat) (nm : ByteArray) (ty tmo td th tmi ts : Int) (tk lt fk : Bool) (K K0 : Int) (mk : Bool) (p8 z8 at8 : Nat) (ip iz il : Int) (w : World) (hE : Env w) (hR : Rdr w g A n cap bs 0) (hn : n ≤ 1000) (hnc : n ≤ cap) (hcc : cap ≤ 9223372036854775807)
    (n1 : num ((bs.drop 6).take 2) = vr) (n2 : num ((bs.drop 8).take 2) = fl) (n3 : num ((bs.drop 10).take 2) = me) (n4 : num ((bs.drop 12).take 2) = ck) (n5 : num ((bs.drop 14).take 2) = dt) (n6 : num ((bs.drop 16).take 4) = cr) (n7 : num ((bs.drop 20).take 4) = pk) (n8 : num ((bs.drop 24).take 4) = sz) (n9 : num ((bs.drop 28).take 2) = ln) (n10 : num ((bs.drop 42).take 4) = pl)
    (hwd : (vr == 45) = true) (n11 : num ((bs.drop (ln + 50)).take 8) = z8) (n12 : num ((bs.drop (ln + 58)).take 8) = p8) (n13 : num ((bs.drop (ln + 66)).take 8) = at8) (hip : IntKind.i64.wrap (p8 : Int) = ip) (hiz : IntKind.i64.wrap (z8 : Int) = iz) (hil : IntKind.i64.wrap (at8 : Int) = il) (hmk : ((pk == 4294967295) && ((sz == 4294967295) && (pl == 4294967295))) = mk) (hlt : (fl / 8 % 2 == 1) = lt) (htk : rightD dt ck = tk) (htm : tmD dt ck = tm ty tmo td th tmi ts) (hg3 : 3 ≤ g) (hnm : (⟨((bs.drop 46).take ln).toArray⟩ : ByteArray) = nm) (hfk : ((fl : Int) == flagsH nm lt) = fk) (hK0 : codeC nm (rightB ty tmo td th tmi ts) me ip iz il = K0) (hK : bad (clW bs n tk ln mk fk K0) = K) :
    Calls Tryd.prog 17 #[.pointer (some ⟨g, 0, none⟩)] w (RdH w g A n cap (ln + 74) K (.agg #[.string nm, .int .i64 ty, .int .i64 tmo, .int .i64 td, .int .i64 th, .int .i64 tmi, .int .i64 ts, .int .i64 (me : Nat), .int .u32 (cr : Nat), .int .i64 ip, .int .i64 iz, .bool true, .bool lt, .int .i64 il])) := by
  have bvr : vr < 65536 := n1 ▸ num_bd bs _ 2 _ (by decide)
  have bfl : fl < 65536 := n2 ▸ num_bd bs _ 2 _ (by decide)
  have bme : me < 65536 := n3 ▸ num_bd bs _ 2 _ (by decide)
  have bck : ck < 65536 := n4 ▸ num_bd bs _ 2 _ (by decide)
  have bdt : dt < 65536 := n5 ▸ num_bd bs _ 2 _ (by decide)
  have bcr : cr < 4294967296 := n6 ▸ num_bd bs _ 4 _ (by decide)
  have bpk : pk < 4294967296 := n7 ▸ num_bd bs _ 4 _ (by decide)
  have bsz : sz < 4294967296 := n8 ▸ num_bd bs _ 4 _ (by decide)
  have bln : ln < 65536 := n9 ▸ num_bd bs _ 2 _ (by decide)
  have bpl : pl < 4294967296 := n10 ▸ num_bd bs _ 4 _ (by decide)
  have HK := Lib.hid hK
  have HE := Lib.hid hE
  have HTM := Lib.hid htm
  have HTK := Lib.hid htk
  have hwdI : ((vr : Int) == 45) = true := by rw [← hwd]; exact natbeq vr 45
  have k1 : IntKind.i64.wrap (me : Int) = (me : Int) := IntWalk.i64_in _ (by omega)
  have k2 : IntKind.u32.wrap (cr : Int) = (cr : Int) := IntWalk.u32_in _ (by omega)
  have k3 : IntKind.i64.wrap (pk : Int) = (pk : Int) := IntWalk.i64_in _ (by omega)
  have k4 : IntKind.i64.wrap (sz : Int) = (sz : Int) := IntWalk.i64_in _ (by omega)
  have k5 : IntKind.i64.wrap (ln : Int) = (ln : Int) := IntWalk.i64_in _ (by omega)
  have k8 : IntKind.i64.wrap (pl : Int) = (pl : Int) := IntWalk.i64_in _ (by omega)
  have k6 : IntKind.u16.wrap (dt : Int) = (dt : Int) := u16_in dt bdt
  have k7 : IntKind.u16.wrap (ck : Int) = (ck : Int) := u16_in ck bck
  have hb8 : (bits .and .u64 (fl : Int) 8 != 0) = lt := by rw [← hlt]; exact and8 fl bfl
  obtain ⟨F, hF⟩ : ∃ F, flagsH nm lt = F := ⟨_, rfl⟩
  have HFL := Lib.hid hF
  have hFb := flagsH_bd nm lt
  rw [hF] at hfk hFb
  have kF : IntKind.u64.wrap F = F := IntWalk.u64_in _ (by omega)
  have HNM := Lib.hid hnm
  have hnz : nm.size < 9223372036854775807 := by rw [← hnm]; show (((bs.drop 46).take ln).toArray).size < _; simp; omega
  have XHC : Hid (∀ w, Env w → Calls Tryd.prog 10 #[.agg #[.string nm, .int .i64 ty, .int .i64 tmo, .int .i64 td, .int .i64 th, .int .i64 tmi, .int .i64 ts, .int .i64 (me : Nat), .int .u32 (cr : Nat), .int .i64 ip, .int .i64 iz, .bool true, .bool lt, .int .i64 il]] w fun e w' => e = .returned (.int .i64 K0) ∧ Below w.heap.size w w') := Lib.hid (fun w hE => by
    have := ccheck_any nm ty tmo td th tmi ts me cr ip iz true lt il w hE
    rwa [hK0] at this)
  have hgl := hR.1.lt
  have HT := Lib.hid (Whole.new w 28 #[.string ⟨#[]⟩, .int .i64 0, .int .i64 0, .int .i64 0, .int .i64 0, .int .i64 0, .int .i64 0, .int .i64 0, .int .u32 0, .int .i64 0, .int .i64 0, .bool false, .bool false, .int .i64 0] rfl)
  have HA := Lib.hid ((Alone.refl w g).alloc (.cells #[.string ⟨#[]⟩, .int .i64 0, .int .i64 0, .int .i64 0, .int .i64 0, .int .i64 0, .int .i64 0, .int .i64 0, .int .u32 0, .int .i64 0, .int .i64 0, .bool false, .bool false, .int .i64 0] 28))
  have HR := Lib.hid (hR.below ((Below.refl w.heap.size w).alloc (Nat.le_refl _) (.cells #[.string ⟨#[]⟩, .int .i64 0, .int .i64 0, .int .i64 0, .int .i64 0, .int .i64 0, .int .i64 0, .int .i64 0, .int .u32 0, .int .i64 0, .int .i64 0, .bool false, .bool false, .int .i64 0] 28)))
  clear hR hK hE htm htk hnm hK0 hF hFb
  go_enter Tryd.func17, Tryd.ntmps17
  go_wp2_with fail
  rcases Nat.lt_or_ge n (4) with l0 | l0
  · have b0 : decide (4 ≤ n) = false := decide_eq_false (by omega)
    have hk := Lib.hid (show K = 4 by rw [← HK.out]; simp [bad, clW, b0])
    refine (want_threw _ _ _ _ _ _ (int_short g A n cap bs (0) 4 _ HR.out (by omega) (by omega) (by omega) (by omega) (by omega))).mono ?_
    rintro e w20 ⟨rfl, hb⟩
    have HA := Lib.hid (HA.out.trans (Alone.of_below hb g))
    clear hb
    go_wp2
    simp [bodyPost]
    exact RdH.no (by rw [hk.out]; decide) (by rw [hk.out]) HA.out
  have b0 : decide (4 ≤ n) = true := decide_eq_true l0
  rcases Decidable.em (num (bs.take 4) = 33639248) with nmg | nmg
  rotate_left
  · have hk := Lib.hid (show K = 30 by rw [← HK.out]; simp [bad, clW, b0, nmg])
    refine (want_false g A n cap bs (0) 4 33639248 30 _ HR.out (by omega) hnc (by omega) hcc (by omega) (by omega) nmg).mono ?_
    rintro e w20 ⟨rfl, hMv⟩
    have HA := Lib.hid (HA.out.trans hMv.1)
    clear hMv
    go_wp2
    simp [bodyPost]
    exact RdH.no (by rw [hk.out]; decide) (by rw [hk.out]) HA.out
  refine (want_true g A n cap bs (0) 4 33639248 30 _ HR.out (by omega) hnc (by omega) hcc (by omega) (by omega) nmg).mono ?_
  rintro e wx ⟨rfl, hM⟩
  have HA := Lib.hid (HA.out.trans hM.1)
  have HT := Lib.hid (hM.1.whole HT.out (by omega))
  have HR := Lib.hid (hM.rdr HR.out)
  clear hM
  go_wp2_with fail
  rcases Nat.lt_or_ge n (6) with l1 | l1
  · have b1 : decide (6 ≤ n) = false := decide_eq_false (by omega)
    have hk := Lib.hid (show K = 4 by rw [← HK.out]; simp [bad, clW, b0, nmg, b1])
    refine (want_threw _ _ _ _ _ _ (int_short g A n cap bs (4) 2 _ HR.out (by omega) (by omega) (by omega) (by omega) (by omega))).mono ?_
    rintro e w20 ⟨rfl, hb⟩
    have HA := Lib.hid (HA.out.trans (Alone.of_below hb g))
    clear hb
    go_wp2
    simp [bodyPost]
    exact RdH.no (by rw [hk.out]; decide) (by rw [hk.out]) HA.out
  have b1 : decide (6 ≤ n) = true := decide_eq_true l1
  rcases Decidable.em (num ((bs.drop 4).take 2) = 788) with nmk | nmk
  rotate_left
  · have hk := Lib.hid (show K = 31 by rw [← HK.out]; simp [bad, clW, b0, nmg, b1, nmk])
    refine (want_false g A n cap bs (4) 2 788 31 _ HR.out (by omega) hnc (by omega) hcc (by omega) (by omega) nmk).mono ?_
    rintro e w20 ⟨rfl, hMv⟩
    have HA := Lib.hid (HA.out.trans hMv.1)
    clear hMv
    go_wp2
    simp [bodyPost]
    exact RdH.no (by rw [hk.out]; decide) (by rw [hk.out]) HA.out
  refine (want_true g A n cap bs (4) 2 788 31 _ HR.out (by omega) hnc (by omega) hcc (by omega) (by omega) nmk).mono ?_
  rintro e wx ⟨rfl, hM⟩
  have HA := Lib.hid (HA.out.trans hM.1)
  have HT := Lib.hid (hM.1.whole HT.out (by omega))
  have HR := Lib.hid (hM.rdr HR.out)
  clear hM
  go_wp2_with fail
  obtain ⟨T, hT⟩ : ∃ T, wx.heap.size = T := ⟨_, rfl⟩
  have hwT : w.heap.size < T := by have := HT.out.lt; omega
  have HA := Lib.hid (HA.out.alloc (.cells #[.string ⟨#[]⟩, .int .i64 0, .int .i64 0, .int .i64 0, .int .i64 0, .int .i64 0, .int .i64 0, .int .i64 0, .int .u32 0, .int .i64 0, .int .i64 0, .bool false, .bool false, .int .i64 0] 28))
  have HT := Lib.hid (HT.out.alloc (.cells #[.string ⟨#[]⟩, .int .i64 0, .int .i64 0, .int .i64 0, .int .i64 0, .int .i64 0, .int .i64 0, .int .i64 0, .int .u32 0, .int .i64 0, .int .i64 0, .bool false, .bool false, .int .i64 0] 28))
  have HR := Lib.hid (HR.out.tail #[.string ⟨#[]⟩, .int .i64 0, .int .i64 0, .int .i64 0, .int .i64 0, .int .i64 0, .int .i64 0, .int .i64 0, .int .u32 0, .int .i64 0, .int .i64 0, .bool false, .bool false, .int .i64 0])
  rw [hT] at HR ⊢
  generalize wx.alloc (.cells #[.string ⟨#[]⟩, .int .i64 0, .int .i64 0, .int .i64 0, .int .i64 0, .int .i64 0, .int .i64 0, .int .i64 0, .int .u32 0, .int .i64 0, .int .i64 0, .bool false, .bool false, .int .i64 0] 28) = w9 at HR HT HA ⊢
  clear hT
  rcases Nat.lt_or_ge n (8) with l2 | l2
  · have b2 : decide (8 ≤ n) = false := decide_eq_false (by omega)
    have hk := Lib.hid (show K = 4 by rw [← HK.out]; simp [bad, clW, b0, nmg, b1, nmk, b2])
    refine (int_short g A n cap bs (6) 2 _ HR.out.rdr (by omega) (by omega) (by omega) (by omega) (by omega)).mono ?_
    rintro e w20 ⟨rfl, hb⟩
    have HA := Lib.hid (HA.out.trans (Alone.of_below hb g))
    clear hb
    go_wp2
    simp [bodyPost]
    exact RdH.no (by rw [hk.out]; decide) (by rw [hk.out]) HA.out
  have b2 : decide (8 ≤ n) = true := decide_eq_true l2
  refine (int_get g A n cap bs (6) 2 vr _ HR.out.rdr (by omega) hnc (by omega) hcc (by omega) (by omega) n1).mono ?_
  rintro e wx ⟨rfl, hM⟩
  have HA := Lib.hid (HA.out.trans hM.1)
  have HT := Lib.hid (hM.1.whole HT.out (by omega))
  have HR := Lib.hid (HR.out.moved hM)
  clear hM
  have x0 := HR.out.2.2.1.cell 0
  have x1 := HR.out.2.2.1.cell 1
  have x2 := HR.out.2.2.1.cell 2
  have x3 := HR.out.2.2.1.cell 3
  have x4 := HR.out.2.2.1.cell 4
  have x5 := HR.out.2.2.1.cell 5
  have x6 := HR.out.2.2.1.cell 6
  have x7 := HR.out.2.2.1.cell 7
  have x8 := HR.out.2.2.1.cell 8
  have x9 := HR.out.2.2.1.cell 9
  have x10 := HR.out.2.2.1.cell 10
  have x11 := HR.out.2.2.1.cell 11
  have x12 := HR.out.2.2.1.cell 12
  have x13 := HR.out.2.2.1.cell 13
  simp at x0 x1 x2 x3 x4 x5 x6 x7 x8 x9 x10 x11 x12 x13
  go_wp2_with fail
  rcases Nat.lt_or_ge n (10) with l3 | l3
  · have b3 : decide (10 ≤ n) = false := decide_eq_false (by omega)
    have hk := Lib.hid (show K = 4 by rw [← HK.out]; simp [bad, clW, b0, nmg, b1, nmk, b2, b3])
    refine (int_short g A n cap bs (8) 2 _ HR.out.rdr (by omega) (by omega) (by omega) (by omega) (by omega)).mono ?_
    rintro e w20 ⟨rfl, hb⟩
    have HA := Lib.hid (HA.out.trans (Alone.of_below hb g))
    clear hb
    go_wp2
    simp [bodyPost]
    exact RdH.no (by rw [hk.out]; decide) (by rw [hk.out]) HA.out
  have b3 : decide (10 ≤ n) = true := decide_eq_true l3
  refine (int_get g A n cap bs (8) 2 fl _ HR.out.rdr (by omega) hnc (by omega) hcc (by omega) (by omega) n2).mono ?_
  clear x0 x1 x2 x3 x4 x5 x6 x7 x8 x9 x10 x11 x12 x13 
  rintro e wx ⟨rfl, hM⟩
  have HA := Lib.hid (HA.out.trans hM.1)
  have HT := Lib.hid (hM.1.whole HT.out (by omega))
  have HR := Lib.hid (HR.out.moved hM)
  clear hM
  have x0 := HR.out.2.2.1.cell 0
  have x1 := HR.out.2.2.1.cell 1
  have x2 := HR.out.2.2.1.cell 2
  have x3 := HR.out.2.2.1.cell 3
  have x4 := HR.out.2.2.1.cell 4
  have x5 := HR.out.2.2.1.cell 5
  have x6 := HR.out.2.2.1.cell 6
  have x7 := HR.out.2.2.1.cell 7
  have x8 := HR.out.2.2.1.cell 8
  have x9 := HR.out.2.2.1.cell 9
  have x10 := HR.out.2.2.1.cell 10
  have x11 := HR.out.2.2.1.cell 11
  have x12 := HR.out.2.2.1.cell 12
  have x13 := HR.out.2.2.1.cell 13
  have y0 := HR.out.2.2.1.free 0
  have y1 := HR.out.2.2.1.free 1
  have y2 := HR.out.2.2.1.free 2
  have y3 := HR.out.2.2.1.free 3
  have y4 := HR.out.2.2.1.free 4
  have y5 := HR.out.2.2.1.free 5
  have y6 := HR.out.2.2.1.free 6
  have y7 := HR.out.2.2.1.free 7
  have y8 := HR.out.2.2.1.free 8
  have y9 := HR.out.2.2.1.free 9
  have y10 := HR.out.2.2.1.free 10
  have y11 := HR.out.2.2.1.free 11
  have y12 := HR.out.2.2.1.free 12
  have y13 := HR.out.2.2.1.free 13
  simp at x0 x1 x2 x3 x4 x5 x6 x7 x8 x9 x10 x11 x12 x13
  go_wp2_with fail
  clear x0 x1 x2 x3 x4 x5 x6 x7 x8 x9 x10 x11 x12 x13 y0 y1 y2 y3 y4 y5 y6 y7 y8 y9 y10 y11 y12 y13
  obtain ⟨w10, hws⟩ : ∃ x, ((wx.setCell ⟨T, 11, none⟩ (.bool true)).setCell ⟨T, 12, none⟩ (.bool lt)) = x := ⟨_, rfl⟩
  rw [hws]
  have HR : Hid (RS w10 g T A n cap bs (8 + 2) #[.string ⟨#[]⟩, .int .i64 0, .int .i64 0, .int .i64 0, .int .i64 0, .int .i64 0, .int .i64 0, .int .i64 0, .int .u32 0, .int .i64 0, .int .i64 0, .bool true, .bool lt, .int .i64 0]) := Lib.hid (hws ▸ ((HR.out.store 11 (.bool true) rfl).store 12 (.bool lt) rfl))
  have HA : Hid (Alone w w10 g) := Lib.hid (hws ▸ (alone_new (alone_new HA.out (p := ⟨T, 11, none⟩) (by show w.heap.size ≤ T; omega) (.bool true)) (p := ⟨T, 12, none⟩) (by show w.heap.size ≤ T; omega) (.bool lt)))
  have HT : Hid (Whole w10 w.heap.size 28 #[.string ⟨#[]⟩, .int .i64 0, .int .i64 0, .int .i64 0, .int .i64 0, .int .i64 0, .int .i64 0, .int .i64 0, .int .u32 0, .int .i64 0, .int .i64 0, .bool false, .bool false, .int .i64 0]) := Lib.hid (hws ▸ ((HT.out.other (p := ⟨T, 11, none⟩) (by show w.heap.size ≠ T; omega) (.bool true)).other (p := ⟨T, 12, none⟩) (by show w.heap.size ≠ T; omega) (.bool lt)))
  clear hws
  refine (hversion_any ⟨#[]⟩ 0 0 0 0 0 0 0 0 0 0 true lt w10).mono ?_
  rintro e wx ⟨rfl, hb⟩
  have HA := Lib.hid (HA.out.trans (Alone.of_below hb g))
  have HT := Lib.hid (HT.out.below' hb)
  have HR := Lib.hid (HR.out.below hb)
  clear hb
  have x0 := HR.out.2.2.1.cell 0
  have x1 := HR.out.2.2.1.cell 1
  have x2 := HR.out.2.2.1.cell 2
  have x3 := HR.out.2.2.1.cell 3
  have x4 := HR.out.2.2.1.cell 4
  have x5 := HR.out.2.2.1.cell 5
  have x6 := HR.out.2.2.1.cell 6
  have x7 := HR.out.2.2.1.cell 7
  have x8 := HR.out.2.2.1.cell 8
  have x9 := HR.out.2.2.1.cell 9
  have x10 := HR.out.2.2.1.cell 10
  have x11 := HR.out.2.2.1.cell 11
  have x12 := HR.out.2.2.1.cell 12
  have x13 := HR.out.2.2.1.cell 13
  simp at x0 x1 x2 x3 x4 x5 x6 x7 x8 x9 x10 x11 x12 x13
  go_wp2_with fail
  refine (check_true 31 _).mono ?_
  rintro e wy ⟨rfl, rfl⟩
  go_wp2_with fail
  rcases Nat.lt_or_ge n (12) with l4 | l4
  · have b4 : decide (12 ≤ n) = false := decide_eq_false (by omega)
    have hk := Lib.hid (show K = 4 by rw [← HK.out]; simp [bad, clW, b0, nmg, b1, nmk, b2, b3, b4])
    refine (int_short g A n cap bs (10) 2 _ HR.out.rdr (by omega) (by omega) (by omega) (by omega) (by omega)).mono ?_
    rintro e w20 ⟨rfl, hb⟩
    have HA := Lib.hid (HA.out.trans (Alone.of_below hb g))
    clear hb
    go_wp2
    simp [bodyPost]
    exact RdH.no (by rw [hk.out]; decide) (by rw [hk.out]) HA.out
  have b4 : decide (12 ≤ n) = true := decide_eq_true l4
  refine (int_get g A n cap bs (10) 2 me _ HR.out.rdr (by omega) hnc (by omega) hcc (by omega) (by omega) n3).mono ?_
  clear x0 x1 x2 x3 x4 x5 x6 x7 x8 x9 x10 x11 x12 x13 
  rintro e wx ⟨rfl, hM⟩
  have HA := Lib.hid (HA.out.trans hM.1)
  have HT := Lib.hid (hM.1.whole HT.out (by omega))
  have HR := Lib.hid (HR.out.moved hM)
  clear hM
  have x0 := HR.out.2.2.1.cell 0
  have x1 := HR.out.2.2.1.cell 1
  have x2 := HR.out.2.2.1.cell 2
  have x3 := HR.out.2.2.1.cell 3
  have x4 := HR.out.2.2.1.cell 4
  have x5 := HR.out.2.2.1.cell 5
  have x6 := HR.out.2.2.1.cell 6
  have x7 := HR.out.2.2.1.cell 7
  have x8 := HR.out.2.2.1.cell 8
  have x9 := HR.out.2.2.1.cell 9
  have x10 := HR.out.2.2.1.cell 10
  have x11 := HR.out.2.2.1.cell 11
  have x12 := HR.out.2.2.1.cell 12
  have x13 := HR.out.2.2.1.cell 13
  have y0 := HR.out.2.2.1.free 0
  have y1 := HR.out.2.2.1.free 1
  have y2 := HR.out.2.2.1.free 2
  have y3 := HR.out.2.2.1.free 3
  have y4 := HR.out.2.2.1.free 4
  have y5 := HR.out.2.2.1.free 5
  have y6 := HR.out.2.2.1.free 6
  have y7 := HR.out.2.2.1.free 7
  have y8 := HR.out.2.2.1.free 8
  have y9 := HR.out.2.2.1.free 9
  have y10 := HR.out.2.2.1.free 10
  have y11 := HR.out.2.2.1.free 11
  have y12 := HR.out.2.2.1.free 12
  have y13 := HR.out.2.2.1.free 13
  simp at x0 x1 x2 x3 x4 x5 x6 x7 x8 x9 x10 x11 x12 x13
  go_wp2_with fail
  clear x0 x1 x2 x3 x4 x5 x6 x7 x8 x9 x10 x11 x12 x13 y0 y1 y2 y3 y4 y5 y6 y7 y8 y9 y10 y11 y12 y13
  obtain ⟨w8, hws⟩ : ∃ x, (wx.setCell ⟨T, 7, none⟩ (.int .i64 (me : Nat))) = x := ⟨_, rfl⟩
  rw [hws]
  have HR : Hid (RS w8 g T A n cap bs (10 + 2) #[.string ⟨#[]⟩, .int .i64 0, .int .i64 0, .int .i64 0, .int .i64 0, .int .i64 0, .int .i64 0, .int .i64 (me : Nat), .int .u32 0, .int .i64 0, .int .i64 0, .bool true, .bool lt, .int .i64 0]) := Lib.hid (hws ▸ (HR.out.store 7 (.int .i64 (me : Nat)) rfl))
  have HA : Hid (Alone w w8 g) := Lib.hid (hws ▸ (alone_new HA.out (p := ⟨T, 7, none⟩) (by show w.heap.size ≤ T; omega) (.int .i64 (me : Nat))))
  have HT : Hid (Whole w8 w.heap.size 28 #[.string ⟨#[]⟩, .int .i64 0, .int .i64 0, .int .i64 0, .int .i64 0, .int .i64 0, .int .i64 0, .int .i64 0, .int .u32 0, .int .i64 0, .int .i64 0, .bool false, .bool false, .int .i64 0]) := Lib.hid (hws ▸ (HT.out.other (p := ⟨T, 7, none⟩) (by show w.heap.size ≠ T; omega) (.int .i64 (me : Nat))))
  clear hws
  rcases Nat.lt_or_ge n (14) with l5 | l5
  · have b5 : decide (14 ≤ n) = false := decide_eq_false (by omega)
    have hk := Lib.hid (show K = 4 by rw [← HK.out]; simp [bad, clW, b0, nmg, b1, nmk, b2, b3, b4, b5])
    refine (int_short g A n cap bs (12) 2 _ HR.out.rdr (by omega) (by omega) (by omega) (by omega) (by omega)).mono ?_
    rintro e w20 ⟨rfl, hb⟩
    have HA := Lib.hid (HA.out.trans (Alone.of_below hb g))
    clear hb
    go_wp2
    simp [bodyPost]
    exact RdH.no (by rw [hk.out]; decide) (by rw [hk.out]) HA.out
  have b5 : decide (14 ≤ n) = true := decide_eq_true l5
  refine (int_get g A n cap bs (12) 2 ck _ HR.out.rdr (by omega) hnc (by omega) hcc (by omega) (by omega) n4).mono ?_
  rintro e wx ⟨rfl, hM⟩
  have HA := Lib.hid (HA.out.trans hM.1)
  have HT := Lib.hid (hM.1.whole HT.out (by omega))
  have HR := Lib.hid (HR.out.moved hM)
  clear hM
  have x0 := HR.out.2.2.1.cell 0
  have x1 := HR.out.2.2.1.cell 1
  have x2 := HR.out.2.2.1.cell 2
  have x3 := HR.out.2.2.1.cell 3
  have x4 := HR.out.2.2.1.cell 4
  have x5 := HR.out.2.2.1.cell 5
  have x6 := HR.out.2.2.1.cell 6
  have x7 := HR.out.2.2.1.cell 7
  have x8 := HR.out.2.2.1.cell 8
  have x9 := HR.out.2.2.1.cell 9
  have x10 := HR.out.2.2.1.cell 10
  have x11 := HR.out.2.2.1.cell 11
  have x12 := HR.out.2.2.1.cell 12
  have x13 := HR.out.2.2.1.cell 13
  simp at x0 x1 x2 x3 x4 x5 x6 x7 x8 x9 x10 x11 x12 x13
  go_wp2_with fail
  rcases Nat.lt_or_ge n (16) with l6 | l6
  · have b6 : decide (16 ≤ n) = false := decide_eq_false (by omega)
    have hk := Lib.hid (show K = 4 by rw [← HK.out]; simp [bad, clW, b0, nmg, b1, nmk, b2, b3, b4, b5, b6])
    refine (int_short g A n cap bs (14) 2 _ HR.out.rdr (by omega) (by omega) (by omega) (by omega) (by omega)).mono ?_
    rintro e w20 ⟨rfl, hb⟩
    have HA := Lib.hid (HA.out.trans (Alone.of_below hb g))
    clear hb
    go_wp2
    simp [bodyPost]
    exact RdH.no (by rw [hk.out]; decide) (by rw [hk.out]) HA.out
  have b6 : decide (16 ≤ n) = true := decide_eq_true l6
  refine (int_get g A n cap bs (14) 2 dt _ HR.out.rdr (by omega) hnc (by omega) hcc (by omega) (by omega) n5).mono ?_
  clear x0 x1 x2 x3 x4 x5 x6 x7 x8 x9 x10 x11 x12 x13 
  rintro e wx ⟨rfl, hM⟩
  have HA := Lib.hid (HA.out.trans hM.1)
  have HT := Lib.hid (hM.1.whole HT.out (by omega))
  have HR := Lib.hid (HR.out.moved hM)
  clear hM
  have x0 := HR.out.2.2.1.cell 0
  have x1 := HR.out.2.2.1.cell 1
  have x2 := HR.out.2.2.1.cell 2
  have x3 := HR.out.2.2.1.cell 3
  have x4 := HR.out.2.2.1.cell 4
  have x5 := HR.out.2.2.1.cell 5
  have x6 := HR.out.2.2.1.cell 6
  have x7 := HR.out.2.2.1.cell 7
  have x8 := HR.out.2.2.1.cell 8
  have x9 := HR.out.2.2.1.cell 9
  have x10 := HR.out.2.2.1.cell 10
  have x11 := HR.out.2.2.1.cell 11
  have x12 := HR.out.2.2.1.cell 12
  have x13 := HR.out.2.2.1.cell 13
  have y0 := HR.out.2.2.1.free 0
  have y1 := HR.out.2.2.1.free 1
  have y2 := HR.out.2.2.1.free 2
  have y3 := HR.out.2.2.1.free 3
  have y4 := HR.out.2.2.1.free 4
  have y5 := HR.out.2.2.1.free 5
  have y6 := HR.out.2.2.1.free 6
  have y7 := HR.out.2.2.1.free 7
  have y8 := HR.out.2.2.1.free 8
  have y9 := HR.out.2.2.1.free 9
  have y10 := HR.out.2.2.1.free 10
  have y11 := HR.out.2.2.1.free 11
  have y12 := HR.out.2.2.1.free 12
  have y13 := HR.out.2.2.1.free 13
  simp at x0 x1 x2 x3 x4 x5 x6 x7 x8 x9 x10 x11 x12 x13
  go_wp2_with fail
  rcases Bool.eq_false_or_eq_true tk with etk | etk
  rotate_left
  · have hk := Lib.hid (show K = 34 by rw [← HK.out]; simp [bad, clW, b0, nmg, b1, nmk, b2, b3, b4, b5, b6, etk])
    refine (decode_any dt ck wx false (by rw [HTK.out, etk]) (by omega) (by omega) (by omega) (by omega)).mono ?_
    rintro e w19 ⟨rfl, hb⟩
    have HA := Lib.hid (HA.out.trans (Alone.of_below hb g))
    clear hb
    go_wp2_with fail
    refine (must_time_bad 0 0 0 0 0 0 34 _ (by decide)).mono ?_
    rintro e w20 ⟨rfl, hb⟩
    have HA := Lib.hid (HA.out.trans (Alone.of_below hb g))
    clear hb
    go_wp2
    simp [bodyPost]
    exact RdH.no (by rw [hk.out]; decide) (by rw [hk.out]) HA.out
  refine (decode_any dt ck wx true (by rw [HTK.out, etk]) (by omega) (by omega) (by omega) (by omega)).mono ?_
  rw [HTM.out]
  rintro e wx2 ⟨rfl, hb⟩
  clear x0 x1 x2 x3 x4 x5 x6 x7 x8 x9 x10 x11 x12 x13 y0 y1 y2 y3 y4 y5 y6 y7 y8 y9 y10 y11 y12 y13
  have HA := Lib.hid (HA.out.trans (Alone.of_below hb g))
  have HT := Lib.hid (HT.out.below' hb)
  have HR := Lib.hid (HR.out.below hb)
  clear hb
  have x0 := HR.out.2.2.1.cell 0
  have x1 := HR.out.2.2.1.cell 1
  have x2 := HR.out.2.2.1.cell 2
  have x3 := HR.out.2.2.1.cell 3
  have x4 := HR.out.2.2.1.cell 4
  have x5 := HR.out.2.2.1.cell 5
  have x6 := HR.out.2.2.1.cell 6
  have x7 := HR.out.2.2.1.cell 7
  have x8 := HR.out.2.2.1.cell 8
  have x9 := HR.out.2.2.1.cell 9
  have x10 := HR.out.2.2.1.cell 10
  have x11 := HR.out.2.2.1.cell 11
  have x12 := HR.out.2.2.1.cell 12
  have x13 := HR.out.2.2.1.cell 13
  have y0 := HR.out.2.2.1.free 0
  have y1 := HR.out.2.2.1.free 1
  have y2 := HR.out.2.2.1.free 2
  have y3 := HR.out.2.2.1.free 3
  have y4 := HR.out.2.2.1.free 4
  have y5 := HR.out.2.2.1.free 5
  have y6 := HR.out.2.2.1.free 6
  have y7 := HR.out.2.2.1.free 7
  have y8 := HR.out.2.2.1.free 8
  have y9 := HR.out.2.2.1.free 9
  have y10 := HR.out.2.2.1.free 10
  have y11 := HR.out.2.2.1.free 11
  have y12 := HR.out.2.2.1.free 12
  have y13 := HR.out.2.2.1.free 13
  simp at x0 x1 x2 x3 x4 x5 x6 x7 x8 x9 x10 x11 x12 x13
  go_wp2_with fail
  refine (must_time ty tmo td th tmi ts _).mono ?_
  rintro e wx ⟨rfl, hb⟩
  clear x0 x1 x2 x3 x4 x5 x6 x7 x8 x9 x10 x11 x12 x13 y0 y1 y2 y3 y4 y5 y6 y7 y8 y9 y10 y11 y12 y13
  have HA := Lib.hid (HA.out.trans (Alone.of_below hb g))
  have HT := Lib.hid (HT.out.below' hb)
  have HR := Lib.hid (HR.out.below hb)
  clear hb
  have x0 := HR.out.2.2.1.cell 0
  have x1 := HR.out.2.2.1.cell 1
  have x2 := HR.out.2.2.1.cell 2
  have x3 := HR.out.2.2.1.cell 3
  have x4 := HR.out.2.2.1.cell 4
  have x5 := HR.out.2.2.1.cell 5
  have x6 := HR.out.2.2.1.cell 6
  have x7 := HR.out.2.2.1.cell 7
  have x8 := HR.out.2.2.1.cell 8
  have x9 := HR.out.2.2.1.cell 9
  have x10 := HR.out.2.2.1.cell 10
  have x11 := HR.out.2.2.1.cell 11
  have x12 := HR.out.2.2.1.cell 12
  have x13 := HR.out.2.2.1.cell 13
  have y0 := HR.out.2.2.1.free 0
  have y1 := HR.out.2.2.1.free 1
  have y2 := HR.out.2.2.1.free 2
  have y3 := HR.out.2.2.1.free 3
  have y4 := HR.out.2.2.1.free 4
  have y5 := HR.out.2.2.1.free 5
  have y6 := HR.out.2.2.1.free 6
  have y7 := HR.out.2.2.1.free 7
  have y8 := HR.out.2.2.1.free 8
  have y9 := HR.out.2.2.1.free 9
  have y10 := HR.out.2.2.1.free 10
  have y11 := HR.out.2.2.1.free 11
  have y12 := HR.out.2.2.1.free 12
  have y13 := HR.out.2.2.1.free 13
  simp at x0 x1 x2 x3 x4 x5 x6 x7 x8 x9 x10 x11 x12 x13
  go_wp2_with fail
  clear x0 x1 x2 x3 x4 x5 x6 x7 x8 x9 x10 x11 x12 x13 y0 y1 y2 y3 y4 y5 y6 y7 y8 y9 y10 y11 y12 y13
  obtain ⟨w11, hws⟩ : ∃ x, ((((((wx.setCell ⟨T, 1, none⟩ (.int .i64 ty)).setCell ⟨T, 2, none⟩ (.int .i64 tmo)).setCell ⟨T, 3, none⟩ (.int .i64 td)).setCell ⟨T, 4, none⟩ (.int .i64 th)).setCell ⟨T, 5, none⟩ (.int .i64 tmi)).setCell ⟨T, 6, none⟩ (.int .i64 ts)) = x := ⟨_, rfl⟩
  rw [hws]
  have HR : Hid (RS w11 g T A n cap bs (14 + 2) #[.string ⟨#[]⟩, .int .i64 ty, .int .i64 tmo, .int .i64 td, .int .i64 th, .int .i64 tmi, .int .i64 ts, .int .i64 (me : Nat), .int .u32 0, .int .i64 0, .int .i64 0, .bool true, .bool lt, .int .i64 0]) := Lib.hid (hws ▸ ((((((HR.out.store 1 (.int .i64 ty) rfl).store 2 (.int .i64 tmo) rfl).store 3 (.int .i64 td) rfl).store 4 (.int .i64 th) rfl).store 5 (.int .i64 tmi) rfl).store 6 (.int .i64 ts) rfl))
  have HA : Hid (Alone w w11 g) := Lib.hid (hws ▸ (alone_new (alone_new (alone_new (alone_new (alone_new (alone_new HA.out (p := ⟨T, 1, none⟩) (by show w.heap.size ≤ T; omega) (.int .i64 ty)) (p := ⟨T, 2, none⟩) (by show w.heap.size ≤ T; omega) (.int .i64 tmo)) (p := ⟨T, 3, none⟩) (by show w.heap.size ≤ T; omega) (.int .i64 td)) (p := ⟨T, 4, none⟩) (by show w.heap.size ≤ T; omega) (.int .i64 th)) (p := ⟨T, 5, none⟩) (by show w.heap.size ≤ T; omega) (.int .i64 tmi)) (p := ⟨T, 6, none⟩) (by show w.heap.size ≤ T; omega) (.int .i64 ts)))
  have HT : Hid (Whole w11 w.heap.size 28 #[.string ⟨#[]⟩, .int .i64 0, .int .i64 0, .int .i64 0, .int .i64 0, .int .i64 0, .int .i64 0, .int .i64 0, .int .u32 0, .int .i64 0, .int .i64 0, .bool false, .bool false, .int .i64 0]) := Lib.hid (hws ▸ ((((((HT.out.other (p := ⟨T, 1, none⟩) (by show w.heap.size ≠ T; omega) (.int .i64 ty)).other (p := ⟨T, 2, none⟩) (by show w.heap.size ≠ T; omega) (.int .i64 tmo)).other (p := ⟨T, 3, none⟩) (by show w.heap.size ≠ T; omega) (.int .i64 td)).other (p := ⟨T, 4, none⟩) (by show w.heap.size ≠ T; omega) (.int .i64 th)).other (p := ⟨T, 5, none⟩) (by show w.heap.size ≠ T; omega) (.int .i64 tmi)).other (p := ⟨T, 6, none⟩) (by show w.heap.size ≠ T; omega) (.int .i64 ts)))
  clear hws
  rcases Nat.lt_or_ge n (20) with l7 | l7
  · have b7 : decide (20 ≤ n) = false := decide_eq_false (by omega)
    have hk := Lib.hid (show K = 4 by rw [← HK.out]; simp [bad, clW, b0, nmg, b1, nmk, b2, b3, b4, b5, b6, etk, b7])
    refine (int_short g A n cap bs (16) 4 _ HR.out.rdr (by omega) (by omega) (by omega) (by omega) (by omega)).mono ?_
    rintro e w20 ⟨rfl, hb⟩
    have HA := Lib.hid (HA.out.trans (Alone.of_below hb g))
    clear hb
    go_wp2
    simp [bodyPost]
    exact RdH.no (by rw [hk.out]; decide) (by rw [hk.out]) HA.out
  have b7 : decide (20 ≤ n) = true := decide_eq_true l7
  refine (int_get g A n cap bs (16) 4 cr _ HR.out.rdr (by omega) hnc (by omega) hcc (by omega) (by omega) n6).mono ?_
  rintro e wx ⟨rfl, hM⟩
  have HA := Lib.hid (HA.out.trans hM.1)
  have HT := Lib.hid (hM.1.whole HT.out (by omega))
  have HR := Lib.hid (HR.out.moved hM)
  clear hM
  have x0 := HR.out.2.2.1.cell 0
  have x1 := HR.out.2.2.1.cell 1
  have x2 := HR.out.2.2.1.cell 2
  have x3 := HR.out.2.2.1.cell 3
  have x4 := HR.out.2.2.1.cell 4
  have x5 := HR.out.2.2.1.cell 5
  have x6 := HR.out.2.2.1.cell 6
  have x7 := HR.out.2.2.1.cell 7
  have x8 := HR.out.2.2.1.cell 8
  have x9 := HR.out.2.2.1.cell 9
  have x10 := HR.out.2.2.1.cell 10
  have x11 := HR.out.2.2.1.cell 11
  have x12 := HR.out.2.2.1.cell 12
  have x13 := HR.out.2.2.1.cell 13
  have y0 := HR.out.2.2.1.free 0
  have y1 := HR.out.2.2.1.free 1
  have y2 := HR.out.2.2.1.free 2
  have y3 := HR.out.2.2.1.free 3
  have y4 := HR.out.2.2.1.free 4
  have y5 := HR.out.2.2.1.free 5
  have y6 := HR.out.2.2.1.free 6
  have y7 := HR.out.2.2.1.free 7
  have y8 := HR.out.2.2.1.free 8
  have y9 := HR.out.2.2.1.free 9
  have y10 := HR.out.2.2.1.free 10
  have y11 := HR.out.2.2.1.free 11
  have y12 := HR.out.2.2.1.free 12
  have y13 := HR.out.2.2.1.free 13
  simp at x0 x1 x2 x3 x4 x5 x6 x7 x8 x9 x10 x11 x12 x13
  go_wp2_with fail
  clear x0 x1 x2 x3 x4 x5 x6 x7 x8 x9 x10 x11 x12 x13 y0 y1 y2 y3 y4 y5 y6 y7 y8 y9 y10 y11 y12 y13
  obtain ⟨w12, hws⟩ : ∃ x, (wx.setCell ⟨T, 8, none⟩ (.int .u32 (cr : Nat))) = x := ⟨_, rfl⟩
  rw [hws]
  have HR : Hid (RS w12 g T A n cap bs (16 + 4) #[.string ⟨#[]⟩, .int .i64 ty, .int .i64 tmo, .int .i64 td, .int .i64 th, .int .i64 tmi, .int .i64 ts, .int .i64 (me : Nat), .int .u32 (cr : Nat), .int .i64 0, .int .i64 0, .bool true, .bool lt, .int .i64 0]) := Lib.hid (hws ▸ (HR.out.store 8 (.int .u32 (cr : Nat)) rfl))
  have HA : Hid (Alone w w12 g) := Lib.hid (hws ▸ (alone_new HA.out (p := ⟨T, 8, none⟩) (by show w.heap.size ≤ T; omega) (.int .u32 (cr : Nat))))
  have HT : Hid (Whole w12 w.heap.size 28 #[.string ⟨#[]⟩, .int .i64 0, .int .i64 0, .int .i64 0, .int .i64 0, .int .i64 0, .int .i64 0, .int .i64 0, .int .u32 0, .int .i64 0, .int .i64 0, .bool false, .bool false, .int .i64 0]) := Lib.hid (hws ▸ (HT.out.other (p := ⟨T, 8, none⟩) (by show w.heap.size ≠ T; omega) (.int .u32 (cr : Nat))))
  clear hws
  rcases Nat.lt_or_ge n (24) with l8 | l8
  · have b8 : decide (24 ≤ n) = false := decide_eq_false (by omega)
    have hk := Lib.hid (show K = 4 by rw [← HK.out]; simp [bad, clW, b0, nmg, b1, nmk, b2, b3, b4, b5, b6, etk, b7, b8])
    refine (int_short g A n cap bs (20) 4 _ HR.out.rdr (by omega) (by omega) (by omega) (by omega) (by omega)).mono ?_
    rintro e w20 ⟨rfl, hb⟩
    have HA := Lib.hid (HA.out.trans (Alone.of_below hb g))
    clear hb
    go_wp2
    simp [bodyPost]
    exact RdH.no (by rw [hk.out]; decide) (by rw [hk.out]) HA.out
  have b8 : decide (24 ≤ n) = true := decide_eq_true l8
  refine (int_get g A n cap bs (20) 4 pk _ HR.out.rdr (by omega) hnc (by omega) hcc (by omega) (by omega) n7).mono ?_
  rintro e wx ⟨rfl, hM⟩
  have HA := Lib.hid (HA.out.trans hM.1)
  have HT := Lib.hid (hM.1.whole HT.out (by omega))
  have HR := Lib.hid (HR.out.moved hM)
  clear hM
  have x0 := HR.out.2.2.1.cell 0
  have x1 := HR.out.2.2.1.cell 1
  have x2 := HR.out.2.2.1.cell 2
  have x3 := HR.out.2.2.1.cell 3
  have x4 := HR.out.2.2.1.cell 4
  have x5 := HR.out.2.2.1.cell 5
  have x6 := HR.out.2.2.1.cell 6
  have x7 := HR.out.2.2.1.cell 7
  have x8 := HR.out.2.2.1.cell 8
  have x9 := HR.out.2.2.1.cell 9
  have x10 := HR.out.2.2.1.cell 10
  have x11 := HR.out.2.2.1.cell 11
  have x12 := HR.out.2.2.1.cell 12
  have x13 := HR.out.2.2.1.cell 13
  simp at x0 x1 x2 x3 x4 x5 x6 x7 x8 x9 x10 x11 x12 x13
  go_wp2_with fail
  rcases Nat.lt_or_ge n (28) with l9 | l9
  · have b9 : decide (28 ≤ n) = false := decide_eq_false (by omega)
    have hk := Lib.hid (show K = 4 by rw [← HK.out]; simp [bad, clW, b0, nmg, b1, nmk, b2, b3, b4, b5, b6, etk, b7, b8, b9])
    refine (int_short g A n cap bs (24) 4 _ HR.out.rdr (by omega) (by omega) (by omega) (by omega) (by omega)).mono ?_
    rintro e w20 ⟨rfl, hb⟩
    have HA := Lib.hid (HA.out.trans (Alone.of_below hb g))
    clear hb
    go_wp2
    simp [bodyPost]
    exact RdH.no (by rw [hk.out]; decide) (by rw [hk.out]) HA.out
  have b9 : decide (28 ≤ n) = true := decide_eq_true l9
  refine (int_get g A n cap bs (24) 4 sz _ HR.out.rdr (by omega) hnc (by omega) hcc (by omega) (by omega) n8).mono ?_
  clear x0 x1 x2 x3 x4 x5 x6 x7 x8 x9 x10 x11 x12 x13 
  rintro e wx ⟨rfl, hM⟩
  have HA := Lib.hid (HA.out.trans hM.1)
  have HT := Lib.hid (hM.1.whole HT.out (by omega))
  have HR := Lib.hid (HR.out.moved hM)
  clear hM
  have x0 := HR.out.2.2.1.cell 0
  have x1 := HR.out.2.2.1.cell 1
  have x2 := HR.out.2.2.1.cell 2
  have x3 := HR.out.2.2.1.cell 3
  have x4 := HR.out.2.2.1.cell 4
  have x5 := HR.out.2.2.1.cell 5
  have x6 := HR.out.2.2.1.cell 6
  have x7 := HR.out.2.2.1.cell 7
  have x8 := HR.out.2.2.1.cell 8
  have x9 := HR.out.2.2.1.cell 9
  have x10 := HR.out.2.2.1.cell 10
  have x11 := HR.out.2.2.1.cell 11
  have x12 := HR.out.2.2.1.cell 12
  have x13 := HR.out.2.2.1.cell 13
  have y0 := HR.out.2.2.1.free 0
  have y1 := HR.out.2.2.1.free 1
  have y2 := HR.out.2.2.1.free 2
  have y3 := HR.out.2.2.1.free 3
  have y4 := HR.out.2.2.1.free 4
  have y5 := HR.out.2.2.1.free 5
  have y6 := HR.out.2.2.1.free 6
  have y7 := HR.out.2.2.1.free 7
  have y8 := HR.out.2.2.1.free 8
  have y9 := HR.out.2.2.1.free 9
  have y10 := HR.out.2.2.1.free 10
  have y11 := HR.out.2.2.1.free 11
  have y12 := HR.out.2.2.1.free 12
  have y13 := HR.out.2.2.1.free 13
  simp at x0 x1 x2 x3 x4 x5 x6 x7 x8 x9 x10 x11 x12 x13
  go_wp2_with fail
  clear x0 x1 x2 x3 x4 x5 x6 x7 x8 x9 x10 x11 x12 x13 y0 y1 y2 y3 y4 y5 y6 y7 y8 y9 y10 y11 y12 y13
  obtain ⟨w13, hws⟩ : ∃ x, ((wx.setCell ⟨T, 9, none⟩ (.int .i64 (pk : Nat))).setCell ⟨T, 10, none⟩ (.int .i64 (sz : Nat))) = x := ⟨_, rfl⟩
  rw [hws]
  have HR : Hid (RS w13 g T A n cap bs (24 + 4) #[.string ⟨#[]⟩, .int .i64 ty, .int .i64 tmo, .int .i64 td, .int .i64 th, .int .i64 tmi, .int .i64 ts, .int .i64 (me : Nat), .int .u32 (cr : Nat), .int .i64 (pk : Nat), .int .i64 (sz : Nat), .bool true, .bool lt, .int .i64 0]) := Lib.hid (hws ▸ ((HR.out.store 9 (.int .i64 (pk : Nat)) rfl).store 10 (.int .i64 (sz : Nat)) rfl))
  have HA : Hid (Alone w w13 g) := Lib.hid (hws ▸ (alone_new (alone_new HA.out (p := ⟨T, 9, none⟩) (by show w.heap.size ≤ T; omega) (.int .i64 (pk : Nat))) (p := ⟨T, 10, none⟩) (by show w.heap.size ≤ T; omega) (.int .i64 (sz : Nat))))
  have HT : Hid (Whole w13 w.heap.size 28 #[.string ⟨#[]⟩, .int .i64 0, .int .i64 0, .int .i64 0, .int .i64 0, .int .i64 0, .int .i64 0, .int .i64 0, .int .u32 0, .int .i64 0, .int .i64 0, .bool false, .bool false, .int .i64 0]) := Lib.hid (hws ▸ ((HT.out.other (p := ⟨T, 9, none⟩) (by show w.heap.size ≠ T; omega) (.int .i64 (pk : Nat))).other (p := ⟨T, 10, none⟩) (by show w.heap.size ≠ T; omega) (.int .i64 (sz : Nat))))
  clear hws
  rcases Nat.lt_or_ge n (30) with l10 | l10
  · have b10 : decide (30 ≤ n) = false := decide_eq_false (by omega)
    have hk := Lib.hid (show K = 4 by rw [← HK.out]; simp [bad, clW, b0, nmg, b1, nmk, b2, b3, b4, b5, b6, etk, b7, b8, b9, b10])
    refine (int_short g A n cap bs (28) 2 _ HR.out.rdr (by omega) (by omega) (by omega) (by omega) (by omega)).mono ?_
    rintro e w20 ⟨rfl, hb⟩
    have HA := Lib.hid (HA.out.trans (Alone.of_below hb g))
    clear hb
    go_wp2
    simp [bodyPost]
    exact RdH.no (by rw [hk.out]; decide) (by rw [hk.out]) HA.out
  have b10 : decide (30 ≤ n) = true := decide_eq_true l10
  refine (int_get g A n cap bs (28) 2 ln _ HR.out.rdr (by omega) hnc (by omega) hcc (by omega) (by omega) n9).mono ?_
  rintro e wx ⟨rfl, hM⟩
  have HA := Lib.hid (HA.out.trans hM.1)
  have HT := Lib.hid (hM.1.whole HT.out (by omega))
  have HR := Lib.hid (HR.out.moved hM)
  clear hM
  have x0 := HR.out.2.2.1.cell 0
  have x1 := HR.out.2.2.1.cell 1
  have x2 := HR.out.2.2.1.cell 2
  have x3 := HR.out.2.2.1.cell 3
  have x4 := HR.out.2.2.1.cell 4
  have x5 := HR.out.2.2.1.cell 5
  have x6 := HR.out.2.2.1.cell 6
  have x7 := HR.out.2.2.1.cell 7
  have x8 := HR.out.2.2.1.cell 8
  have x9 := HR.out.2.2.1.cell 9
  have x10 := HR.out.2.2.1.cell 10
  have x11 := HR.out.2.2.1.cell 11
  have x12 := HR.out.2.2.1.cell 12
  have x13 := HR.out.2.2.1.cell 13
  simp at x0 x1 x2 x3 x4 x5 x6 x7 x8 x9 x10 x11 x12 x13
  go_wp2_with fail
  rcases Nat.lt_or_ge n (32) with l11 | l11
  · have b11 : decide (32 ≤ n) = false := decide_eq_false (by omega)
    have hk := Lib.hid (show K = 4 by rw [← HK.out]; simp [bad, clW, b0, nmg, b1, nmk, b2, b3, b4, b5, b6, etk, b7, b8, b9, b10, b11])
    refine (want_threw _ _ _ _ _ _ (int_short g A n cap bs (30) 2 _ HR.out.rdr (by omega) (by omega) (by omega) (by omega) (by omega))).mono ?_
    rintro e w20 ⟨rfl, hb⟩
    have HA := Lib.hid (HA.out.trans (Alone.of_below hb g))
    clear hb
    go_wp2
    simp [bodyPost]
    exact RdH.no (by rw [hk.out]; decide) (by rw [hk.out]) HA.out
  have b11 : decide (32 ≤ n) = true := decide_eq_true l11
  rcases Decidable.em (num ((bs.drop 30).take 2) = 28) with nx | nx
  rotate_left
  · have hk := Lib.hid (show K = 36 by rw [← HK.out]; simp [bad, clW, b0, nmg, b1, nmk, b2, b3, b4, b5, b6, etk, b7, b8, b9, b10, b11, nx])
    refine (want_false g A n cap bs (30) 2 28 36 _ HR.out.rdr (by omega) hnc (by omega) hcc (by omega) (by omega) nx).mono ?_
    rintro e w20 ⟨rfl, hMv⟩
    have HA := Lib.hid (HA.out.trans hMv.1)
    clear hMv
    go_wp2
    simp [bodyPost]
    exact RdH.no (by rw [hk.out]; decide) (by rw [hk.out]) HA.out
  refine (want_true g A n cap bs (30) 2 28 36 _ HR.out.rdr (by omega) hnc (by omega) hcc (by omega) (by omega) nx).mono ?_
  clear x0 x1 x2 x3 x4 x5 x6 x7 x8 x9 x10 x11 x12 x13 
  rintro e wx ⟨rfl, hM⟩
  have HA := Lib.hid (HA.out.trans hM.1)
  have HT := Lib.hid (hM.1.whole HT.out (by omega))
  have HR := Lib.hid (HR.out.moved hM)
  clear hM
  have x0 := HR.out.2.2.1.cell 0
  have x1 := HR.out.2.2.1.cell 1
  have x2 := HR.out.2.2.1.cell 2
  have x3 := HR.out.2.2.1.cell 3
  have x4 := HR.out.2.2.1.cell 4
  have x5 := HR.out.2.2.1.cell 5
  have x6 := HR.out.2.2.1.cell 6
  have x7 := HR.out.2.2.1.cell 7
  have x8 := HR.out.2.2.1.cell 8
  have x9 := HR.out.2.2.1.cell 9
  have x10 := HR.out.2.2.1.cell 10
  have x11 := HR.out.2.2.1.cell 11
  have x12 := HR.out.2.2.1.cell 12
  have x13 := HR.out.2.2.1.cell 13
  simp at x0 x1 x2 x3 x4 x5 x6 x7 x8 x9 x10 x11 x12 x13
  go_wp2_with fail
  clear x0 x1 x2 x3 x4 x5 x6 x7 x8 x9 x10 x11 x12 x13 
  have HKZ : Hid (bad (zl bs n 3 32 ++ clC bs n ln mk fk K0) = K) := Lib.hid (by rw [← HK.out]; simp [bad, clW, b0, nmg, b1, nmk, b2, b3, b4, b5, b6, etk, b7, b8, b9, b10, b11, nx])
  clear HK
  go_loopw [76] (fun i wr => ∃ (j : Nat), j ≤ 3 ∧ 32 + 2 * j ≤ n ∧ i = .int .i64 (j : Nat) ∧ Hid (RS wr g T A n cap bs (32 + 2 * j) #[.string ⟨#[]⟩, .int .i64 ty, .int .i64 tmo, .int .i64 td, .int .i64 th, .int .i64 tmi, .int .i64 ts, .int .i64 (me : Nat), .int .u32 (cr : Nat), .int .i64 (pk : Nat), .int .i64 (sz : Nat), .bool true, .bool lt, .int .i64 0]) ∧ Hid (Alone w wr g) ∧ Hid (Whole wr w.heap.size 28 #[.string ⟨#[]⟩, .int .i64 0, .int .i64 0, .int .i64 0, .int .i64 0, .int .i64 0, .int .i64 0, .int .i64 0, .int .u32 0, .int .i64 0, .int .i64 0, .bool false, .bool false, .int .i64 0]) ∧ Hid (bad (zl bs n (3 - j) (32 + 2 * j) ++ clC bs n ln mk fk K0) = K)) (fun i _ => 3 - (intOf i).toNat)
  case atStart => exact ⟨0, by omega, by omega, rfl, HR, HA, HT, HKZ⟩
  case round =>
    obtain ⟨j, hj, hjn, rfl, HR, HA, HT, HKZ⟩ := hrel
    by_cases hlt3 : j < 3
    · have h1 : (0 : Int) ≤ (j : Int) := by omega
      have h2 : (j : Int) < 3 := by omega
      have hz := zl_step bs n j hlt3
      have HKJ := HKZ.out
      rw [hz] at HKJ
      have HKJ := Lib.hid HKJ
      clear HKZ hz
      obtain ⟨o, ho⟩ : ∃ o, 32 + 2 * j = o := ⟨_, rfl⟩
      have ho2 : 32 + 2 * (j + 1) = o + 2 := by omega
      have HO1 : Hid (o ≤ n) := Lib.hid (by omega)
      rw [ho] at HR HKJ
      rw [ho2] at HKJ
      have HO2 := Lib.hid ho2
      clear ho ho2
      go_wp2_with fail
      rcases Nat.lt_or_ge n (o + 2) with l | l
      · have hb : decide (o + 2 ≤ n) = false := decide_eq_false (by omega)
        have hk := Lib.hid (show K = 4 by rw [← HKJ.out]; simp [bad, hb])
        refine (want_threw _ _ _ _ _ _ (int_short g A n cap bs o 2 _ HR.out.rdr (by have := HO1.out; omega) (by omega) (by omega) (by omega) (by omega))).mono ?_
        rintro e w20 ⟨rfl, hb2⟩
        have HA := Lib.hid (HA.out.trans (Alone.of_below hb2 g))
        clear hb2
        go_wp2
        simp [bodyPost]
        exact RdH.no (by rw [hk.out]; decide) (by rw [hk.out]) HA.out
      · have hb : decide (o + 2 ≤ n) = true := decide_eq_true l
        rcases Decidable.em (num ((bs.drop o).take 2) = 0) with hn0 | hn0
        rotate_left
        · have hk := Lib.hid (show K = 36 by rw [← HKJ.out]; simp [bad, hb, hn0])
          refine (want_false g A n cap bs o 2 0 36 _ HR.out.rdr (by omega) hnc (by omega) hcc (by omega) (by omega) hn0).mono ?_
          rintro e w20 ⟨rfl, hMv⟩
          have HA := Lib.hid (HA.out.trans hMv.1)
          clear hMv
          go_wp2
          simp [bodyPost]
          exact RdH.no (by rw [hk.out]; decide) (by rw [hk.out]) HA.out
        refine (want_true g A n cap bs o 2 0 36 _ HR.out.rdr (by omega) hnc (by omega) hcc (by omega) (by omega) hn0).mono ?_
        rintro e wx ⟨rfl, hM⟩
        have HA := Lib.hid (HA.out.trans hM.1)
        have HT := Lib.hid (hM.1.whole HT.out (by omega))
        have HR := Lib.hid (HR.out.moved hM)
        have HKN := Lib.hid (show bad (zl bs n (3 - (j + 1)) (o + 2) ++ clC bs n ln mk fk K0) = K by rw [← HKJ.out]; simp [bad, hb, hn0])
        rw [← HO2.out] at HR HKN
        clear hM HKJ hb hn0
        go_wp2
        first
          | exact ⟨⟨j + 1, by omega, by have := HO2.out; omega, by simp, HR, HA, HT, HKN⟩, by show 3 - ((j : Int) + 1).toNat < 3 - ((j : Int)).toNat; omega⟩
          | exact ⟨⟨_, j + 1, by omega, by have := HO2.out; omega, by simp, HR, HA, HT, HKN⟩, by show 3 - ((j : Int) + 1).toNat < 3 - ((j : Int)).toNat; omega⟩
          | exact ⟨⟨_, _, j + 1, by omega, by have := HO2.out; omega, by simp, HR, HA, HT, HKN⟩, by show 3 - ((j : Int) + 1).toNat < 3 - ((j : Int)).toNat; omega⟩
          | exact ⟨⟨_, _, _, j + 1, by omega, by have := HO2.out; omega, by simp, HR, HA, HT, HKN⟩, by show 3 - ((j : Int) + 1).toNat < 3 - ((j : Int)).toNat; omega⟩
          | exact ⟨⟨_, _, _, _, j + 1, by omega, by have := HO2.out; omega, by simp, HR, HA, HT, HKN⟩, by show 3 - ((j : Int) + 1).toNat < 3 - ((j : Int)).toNat; omega⟩
          | exact ⟨⟨_, _, _, _, _, j + 1, by omega, by have := HO2.out; omega, by simp, HR, HA, HT, HKN⟩, by show 3 - ((j : Int) + 1).toNat < 3 - ((j : Int)).toNat; omega⟩
          | exact ⟨⟨_, _, _, _, _, _, j + 1, by omega, by have := HO2.out; omega, by simp, HR, HA, HT, HKN⟩, by show 3 - ((j : Int) + 1).toNat < 3 - ((j : Int)).toNat; omega⟩
          | exact ⟨⟨_, _, _, _, _, _, _, j + 1, by omega, by have := HO2.out; omega, by simp, HR, HA, HT, HKN⟩, by show 3 - ((j : Int) + 1).toNat < 3 - ((j : Int)).toNat; omega⟩
          | exact ⟨⟨_, _, _, _, _, _, _, _, j + 1, by omega, by have := HO2.out; omega, by simp, HR, HA, HT, HKN⟩, by show 3 - ((j : Int) + 1).toNat < 3 - ((j : Int)).toNat; omega⟩
          | exact ⟨⟨_, _, _, _, _, _, _, _, _, j + 1, by omega, by have := HO2.out; omega, by simp, HR, HA, HT, HKN⟩, by show 3 - ((j : Int) + 1).toNat < 3 - ((j : Int)).toNat; omega⟩
          | exact ⟨⟨_, _, _, _, _, _, _, _, _, _, j + 1, by omega, by have := HO2.out; omega, by simp, HR, HA, HT, HKN⟩, by show 3 - ((j : Int) + 1).toNat < 3 - ((j : Int)).toNat; omega⟩
          | exact ⟨⟨_, _, _, _, _, _, _, _, _, _, _, j + 1, by omega, by have := HO2.out; omega, by simp, HR, HA, HT, HKN⟩, by show 3 - ((j : Int) + 1).toNat < 3 - ((j : Int)).toNat; omega⟩
          | exact ⟨⟨_, _, _, _, _, _, _, _, _, _, _, _, j + 1, by omega, by have := HO2.out; omega, by simp, HR, HA, HT, HKN⟩, by show 3 - ((j : Int) + 1).toNat < 3 - ((j : Int)).toNat; omega⟩
          | exact ⟨⟨_, _, _, _, _, _, _, _, _, _, _, _, _, j + 1, by omega, by have := HO2.out; omega, by simp, HR, HA, HT, HKN⟩, by show 3 - ((j : Int) + 1).toNat < 3 - ((j : Int)).toNat; omega⟩
          | exact ⟨⟨_, _, _, _, _, _, _, _, _, _, _, _, _, _, j + 1, by omega, by have := HO2.out; omega, by simp, HR, HA, HT, HKN⟩, by show 3 - ((j : Int) + 1).toNat < 3 - ((j : Int)).toNat; omega⟩
          | exact ⟨⟨_, _, _, _, _, _, _, _, _, _, _, _, _, _, _, j + 1, by omega, by have := HO2.out; omega, by simp, HR, HA, HT, HKN⟩, by show 3 - ((j : Int) + 1).toNat < 3 - ((j : Int)).toNat; omega⟩
          | exact ⟨⟨_, _, _, _, _, _, _, _, _, _, _, _, _, _, _, _, j + 1, by omega, by have := HO2.out; omega, by simp, HR, HA, HT, HKN⟩, by show 3 - ((j : Int) + 1).toNat < 3 - ((j : Int)).toNat; omega⟩
          | exact ⟨⟨_, _, _, _, _, _, _, _, _, _, _, _, _, _, _, _, _, j + 1, by omega, by have := HO2.out; omega, by simp, HR, HA, HT, HKN⟩, by show 3 - ((j : Int) + 1).toNat < 3 - ((j : Int)).toNat; omega⟩
          | exact ⟨⟨_, _, _, _, _, _, _, _, _, _, _, _, _, _, _, _, _, _, j + 1, by omega, by have := HO2.out; omega, by simp, HR, HA, HT, HKN⟩, by show 3 - ((j : Int) + 1).toNat < 3 - ((j : Int)).toNat; omega⟩
          | exact ⟨⟨_, _, _, _, _, _, _, _, _, _, _, _, _, _, _, _, _, _, _, j + 1, by omega, by have := HO2.out; omega, by simp, HR, HA, HT, HKN⟩, by show 3 - ((j : Int) + 1).toNat < 3 - ((j : Int)).toNat; omega⟩
          | exact ⟨⟨_, _, _, _, _, _, _, _, _, _, _, _, _, _, _, _, _, _, _, _, j + 1, by omega, by have := HO2.out; omega, by simp, HR, HA, HT, HKN⟩, by show 3 - ((j : Int) + 1).toNat < 3 - ((j : Int)).toNat; omega⟩
          | exact ⟨⟨_, _, _, _, _, _, _, _, _, _, _, _, _, _, _, _, _, _, _, _, _, j + 1, by omega, by have := HO2.out; omega, by simp, HR, HA, HT, HKN⟩, by show 3 - ((j : Int) + 1).toNat < 3 - ((j : Int)).toNat; omega⟩
          | exact ⟨⟨_, _, _, _, _, _, _, _, _, _, _, _, _, _, _, _, _, _, _, _, _, _, j + 1, by omega, by have := HO2.out; omega, by simp, HR, HA, HT, HKN⟩, by show 3 - ((j : Int) + 1).toNat < 3 - ((j : Int)).toNat; omega⟩
          | exact ⟨⟨_, _, _, _, _, _, _, _, _, _, _, _, _, _, _, _, _, _, _, _, _, _, _, j + 1, by omega, by have := HO2.out; omega, by simp, HR, HA, HT, HKN⟩, by show 3 - ((j : Int) + 1).toNat < 3 - ((j : Int)).toNat; omega⟩
          | exact ⟨⟨_, _, _, _, _, _, _, _, _, _, _, _, _, _, _, _, _, _, _, _, _, _, _, _, j + 1, by omega, by have := HO2.out; omega, by simp, HR, HA, HT, HKN⟩, by show 3 - ((j : Int) + 1).toNat < 3 - ((j : Int)).toNat; omega⟩
          | exact ⟨⟨_, _, _, _, _, _, _, _, _, _, _, _, _, _, _, _, _, _, _, _, _, _, _, _, _, j + 1, by omega, by have := HO2.out; omega, by simp, HR, HA, HT, HKN⟩, by show 3 - ((j : Int) + 1).toNat < 3 - ((j : Int)).toNat; omega⟩
          | exact ⟨⟨_, _, _, _, _, _, _, _, _, _, _, _, _, _, _, _, _, _, _, _, _, _, _, _, _, _, j + 1, by omega, by have := HO2.out; omega, by simp, HR, HA, HT, HKN⟩, by show 3 - ((j : Int) + 1).toNat < 3 - ((j : Int)).toNat; omega⟩
          | exact ⟨⟨_, _, _, _, _, _, _, _, _, _, _, _, _, _, _, _, _, _, _, _, _, _, _, _, _, _, _, j + 1, by omega, by have := HO2.out; omega, by simp, HR, HA, HT, HKN⟩, by show 3 - ((j : Int) + 1).toNat < 3 - ((j : Int)).toNat; omega⟩
          | exact ⟨⟨_, _, _, _, _, _, _, _, _, _, _, _, _, _, _, _, _, _, _, _, _, _, _, _, _, _, _, _, j + 1, by omega, by have := HO2.out; omega, by simp, HR, HA, HT, HKN⟩, by show 3 - ((j : Int) + 1).toNat < 3 - ((j : Int)).toNat; omega⟩
          | exact ⟨⟨_, _, _, _, _, _, _, _, _, _, _, _, _, _, _, _, _, _, _, _, _, _, _, _, _, _, _, _, _, j + 1, by omega, by have := HO2.out; omega, by simp, HR, HA, HT, HKN⟩, by show 3 - ((j : Int) + 1).toNat < 3 - ((j : Int)).toNat; omega⟩
          | exact ⟨⟨_, _, _, _, _, _, _, _, _, _, _, _, _, _, _, _, _, _, _, _, _, _, _, _, _, _, _, _, _, _, j + 1, by omega, by have := HO2.out; omega, by simp, HR, HA, HT, HKN⟩, by show 3 - ((j : Int) + 1).toNat < 3 - ((j : Int)).toNat; omega⟩
    · obtain rfl : j = 3 := by omega
      have HK : Hid (bad (clC bs n ln mk fk K0) = K) := Lib.hid (by have := HKZ.out; simpa [zl] using this)
      clear HKZ
      have x0 := HR.out.2.2.1.cell 0
      have x1 := HR.out.2.2.1.cell 1
      have x2 := HR.out.2.2.1.cell 2
      have x3 := HR.out.2.2.1.cell 3
      have x4 := HR.out.2.2.1.cell 4
      have x5 := HR.out.2.2.1.cell 5
      have x6 := HR.out.2.2.1.cell 6
      have x7 := HR.out.2.2.1.cell 7
      have x8 := HR.out.2.2.1.cell 8
      have x9 := HR.out.2.2.1.cell 9
      have x10 := HR.out.2.2.1.cell 10
      have x11 := HR.out.2.2.1.cell 11
      have x12 := HR.out.2.2.1.cell 12
      have x13 := HR.out.2.2.1.cell 13
      simp at x0 x1 x2 x3 x4 x5 x6 x7 x8 x9 x10 x11 x12 x13
      go_wp2_with fail
      rcases Nat.lt_or_ge n (42) with l12 | l12
      · have b12 : decide (42 ≤ n) = false := decide_eq_false (by omega)
        have hk := Lib.hid (show K = 4 by rw [← HK.out]; simp [bad, clC, b12])
        refine (want_threw _ _ _ _ _ _ (int_short g A n cap bs (38) 4 _ HR.out.rdr (by omega) (by omega) (by omega) (by omega) (by omega))).mono ?_
        rintro e w20 ⟨rfl, hb⟩
        have HA := Lib.hid (HA.out.trans (Alone.of_below hb g))
        clear hb
        go_wp2
        simp [bodyPost]
        exact RdH.no (by rw [hk.out]; decide) (by rw [hk.out]) HA.out
      have b12 : decide (42 ≤ n) = true := decide_eq_true l12
      rcases Decidable.em (num ((bs.drop 38).take 4) = 2175008768) with nou | nou
      rotate_left
      · have hk := Lib.hid (show K = 36 by rw [← HK.out]; simp [bad, clC, b12, nou])
        refine (want_false g A n cap bs (38) 4 2175008768 36 _ HR.out.rdr (by omega) hnc (by omega) hcc (by omega) (by omega) nou).mono ?_
        rintro e w20 ⟨rfl, hMv⟩
        have HA := Lib.hid (HA.out.trans hMv.1)
        clear hMv
        go_wp2
        simp [bodyPost]
        exact RdH.no (by rw [hk.out]; decide) (by rw [hk.out]) HA.out
      refine (want_true g A n cap bs (38) 4 2175008768 36 _ HR.out.rdr (by omega) hnc (by omega) hcc (by omega) (by omega) nou).mono ?_
      clear x0 x1 x2 x3 x4 x5 x6 x7 x8 x9 x10 x11 x12 x13 
      rintro e wx ⟨rfl, hM⟩
      have HA := Lib.hid (HA.out.trans hM.1)
      have HT := Lib.hid (hM.1.whole HT.out (by omega))
      have HR := Lib.hid (HR.out.moved hM)
      clear hM
      have x0 := HR.out.2.2.1.cell 0
      have x1 := HR.out.2.2.1.cell 1
      have x2 := HR.out.2.2.1.cell 2
      have x3 := HR.out.2.2.1.cell 3
      have x4 := HR.out.2.2.1.cell 4
      have x5 := HR.out.2.2.1.cell 5
      have x6 := HR.out.2.2.1.cell 6
      have x7 := HR.out.2.2.1.cell 7
      have x8 := HR.out.2.2.1.cell 8
      have x9 := HR.out.2.2.1.cell 9
      have x10 := HR.out.2.2.1.cell 10
      have x11 := HR.out.2.2.1.cell 11
      have x12 := HR.out.2.2.1.cell 12
      have x13 := HR.out.2.2.1.cell 13
      simp at x0 x1 x2 x3 x4 x5 x6 x7 x8 x9 x10 x11 x12 x13
      go_wp2_with fail
      rcases Nat.lt_or_ge n (46) with l13 | l13
      · have b13 : decide (46 ≤ n) = false := decide_eq_false (by omega)
        have hk := Lib.hid (show K = 4 by rw [← HK.out]; simp [bad, clC, b12, nou, b13])
        refine (int_short g A n cap bs (42) 4 _ HR.out.rdr (by omega) (by omega) (by omega) (by omega) (by omega)).mono ?_
        rintro e w20 ⟨rfl, hb⟩
        have HA := Lib.hid (HA.out.trans (Alone.of_below hb g))
        clear hb
        go_wp2
        simp [bodyPost]
        exact RdH.no (by rw [hk.out]; decide) (by rw [hk.out]) HA.out
      have b13 : decide (46 ≤ n) = true := decide_eq_true l13
      refine (int_get g A n cap bs (42) 4 pl _ HR.out.rdr (by omega) hnc (by omega) hcc (by omega) (by omega) n10).mono ?_
      clear x0 x1 x2 x3 x4 x5 x6 x7 x8 x9 x10 x11 x12 x13 
      rintro e wx ⟨rfl, hM⟩
      have HA := Lib.hid (HA.out.trans hM.1)
      have HT := Lib.hid (hM.1.whole HT.out (by omega))
      have HR := Lib.hid (HR.out.moved hM)
      clear hM
      have x0 := HR.out.2.2.1.cell 0
      have x1 := HR.out.2.2.1.cell 1
      have x2 := HR.out.2.2.1.cell 2
      have x3 := HR.out.2.2.1.cell 3
      have x4 := HR.out.2.2.1.cell 4
      have x5 := HR.out.2.2.1.cell 5
      have x6 := HR.out.2.2.1.cell 6
      have x7 := HR.out.2.2.1.cell 7
      have x8 := HR.out.2.2.1.cell 8
      have x9 := HR.out.2.2.1.cell 9
      have x10 := HR.out.2.2.1.cell 10
      have x11 := HR.out.2.2.1.cell 11
      have x12 := HR.out.2.2.1.cell 12
      have x13 := HR.out.2.2.1.cell 13
      have y0 := HR.out.2.2.1.free 0
      have y1 := HR.out.2.2.1.free 1
      have y2 := HR.out.2.2.1.free 2
      have y3 := HR.out.2.2.1.free 3
      have y4 := HR.out.2.2.1.free 4
      have y5 := HR.out.2.2.1.free 5
      have y6 := HR.out.2.2.1.free 6
      have y7 := HR.out.2.2.1.free 7
      have y8 := HR.out.2.2.1.free 8
      have y9 := HR.out.2.2.1.free 9
      have y10 := HR.out.2.2.1.free 10
      have y11 := HR.out.2.2.1.free 11
      have y12 := HR.out.2.2.1.free 12
      have y13 := HR.out.2.2.1.free 13
      simp at x0 x1 x2 x3 x4 x5 x6 x7 x8 x9 x10 x11 x12 x13
      go_wp2_with fail
      clear x0 x1 x2 x3 x4 x5 x6 x7 x8 x9 x10 x11 x12 x13 y0 y1 y2 y3 y4 y5 y6 y7 y8 y9 y10 y11 y12 y13
      obtain ⟨w14, hws⟩ : ∃ x, (wx.setCell ⟨T, 13, none⟩ (.int .i64 (pl : Nat))) = x := ⟨_, rfl⟩
      rw [hws]
      have HR : Hid (RS w14 g T A n cap bs (42 + 4) #[.string ⟨#[]⟩, .int .i64 ty, .int .i64 tmo, .int .i64 td, .int .i64 th, .int .i64 tmi, .int .i64 ts, .int .i64 (me : Nat), .int .u32 (cr : Nat), .int .i64 (pk : Nat), .int .i64 (sz : Nat), .bool true, .bool lt, .int .i64 (pl : Nat)]) := Lib.hid (hws ▸ (HR.out.store 13 (.int .i64 (pl : Nat)) rfl))
      have HA : Hid (Alone w w14 g) := Lib.hid (hws ▸ (alone_new HA.out (p := ⟨T, 13, none⟩) (by show w.heap.size ≤ T; omega) (.int .i64 (pl : Nat))))
      have HT : Hid (Whole w14 w.heap.size 28 #[.string ⟨#[]⟩, .int .i64 0, .int .i64 0, .int .i64 0, .int .i64 0, .int .i64 0, .int .i64 0, .int .i64 0, .int .u32 0, .int .i64 0, .int .i64 0, .bool false, .bool false, .int .i64 0]) := Lib.hid (hws ▸ (HT.out.other (p := ⟨T, 13, none⟩) (by show w.heap.size ≠ T; omega) (.int .i64 (pl : Nat))))
      clear hws
      have x0 := HR.out.2.2.1.cell 0
      have x1 := HR.out.2.2.1.cell 1
      have x2 := HR.out.2.2.1.cell 2
      have x3 := HR.out.2.2.1.cell 3
      have x4 := HR.out.2.2.1.cell 4
      have x5 := HR.out.2.2.1.cell 5
      have x6 := HR.out.2.2.1.cell 6
      have x7 := HR.out.2.2.1.cell 7
      have x8 := HR.out.2.2.1.cell 8
      have x9 := HR.out.2.2.1.cell 9
      have x10 := HR.out.2.2.1.cell 10
      have x11 := HR.out.2.2.1.cell 11
      have x12 := HR.out.2.2.1.cell 12
      have x13 := HR.out.2.2.1.cell 13
      simp at x0 x1 x2 x3 x4 x5 x6 x7 x8 x9 x10 x11 x12 x13
      rcases Nat.lt_or_ge n (46 + ln) with l14 | l14
      · have b14 : decide (46 + ln ≤ n) = false := decide_eq_false (by omega)
        have hk := Lib.hid (show K = 4 by rw [← HK.out]; simp [bad, clC, b12, nou, b13, b14])
        refine (bytes_short g A n cap bs 46 ln _ HR.out.rdr (by omega) (by omega) (by omega) (by omega)).mono ?_
        rintro e w20 ⟨rfl, hb⟩
        have HA := Lib.hid (HA.out.trans (Alone.of_below hb g))
        clear hb
        go_wp2
        simp [bodyPost]
        exact RdH.no (by rw [hk.out]; decide) (by rw [hk.out]) HA.out
      have b14 : decide (46 + ln ≤ n) = true := decide_eq_true l14
      refine (bytes_ok g A n cap bs 46 ln _ HR.out.rdr (by omega) hnc (by omega) hcc).mono ?_
      clear x0 x1 x2 x3 x4 x5 x6 x7 x8 x9 x10 x11 x12 x13 
      rintro e wx ⟨A2, c2, rfl, hB2, hM⟩
      have HA := Lib.hid (HA.out.trans hM.1)
      have HT := Lib.hid (hM.1.whole HT.out (by omega))
      have HR := Lib.hid (HR.out.moved hM)
      have kn := str_of c2 hB2
      rw [HNM.out] at kn
      clear hM hB2
      have x0 := HR.out.2.2.1.cell 0
      have x1 := HR.out.2.2.1.cell 1
      have x2 := HR.out.2.2.1.cell 2
      have x3 := HR.out.2.2.1.cell 3
      have x4 := HR.out.2.2.1.cell 4
      have x5 := HR.out.2.2.1.cell 5
      have x6 := HR.out.2.2.1.cell 6
      have x7 := HR.out.2.2.1.cell 7
      have x8 := HR.out.2.2.1.cell 8
      have x9 := HR.out.2.2.1.cell 9
      have x10 := HR.out.2.2.1.cell 10
      have x11 := HR.out.2.2.1.cell 11
      have x12 := HR.out.2.2.1.cell 12
      have x13 := HR.out.2.2.1.cell 13
      have y0 := HR.out.2.2.1.free 0
      have y1 := HR.out.2.2.1.free 1
      have y2 := HR.out.2.2.1.free 2
      have y3 := HR.out.2.2.1.free 3
      have y4 := HR.out.2.2.1.free 4
      have y5 := HR.out.2.2.1.free 5
      have y6 := HR.out.2.2.1.free 6
      have y7 := HR.out.2.2.1.free 7
      have y8 := HR.out.2.2.1.free 8
      have y9 := HR.out.2.2.1.free 9
      have y10 := HR.out.2.2.1.free 10
      have y11 := HR.out.2.2.1.free 11
      have y12 := HR.out.2.2.1.free 12
      have y13 := HR.out.2.2.1.free 13
      simp at x0 x1 x2 x3 x4 x5 x6 x7 x8 x9 x10 x11 x12 x13
      go_wp2_with fail
      clear x0 x1 x2 x3 x4 x5 x6 x7 x8 x9 x10 x11 x12 x13 y0 y1 y2 y3 y4 y5 y6 y7 y8 y9 y10 y11 y12 y13
      obtain ⟨w15, hws⟩ : ∃ x, (wx.setCell ⟨T, 0, none⟩ (.string nm)) = x := ⟨_, rfl⟩
      rw [hws]
      have HR : Hid (RS w15 g T A n cap bs (46 + ln) #[.string nm, .int .i64 ty, .int .i64 tmo, .int .i64 td, .int .i64 th, .int .i64 tmi, .int .i64 ts, .int .i64 (me : Nat), .int .u32 (cr : Nat), .int .i64 (pk : Nat), .int .i64 (sz : Nat), .bool true, .bool lt, .int .i64 (pl : Nat)]) := Lib.hid (hws ▸ (HR.out.store 0 (.string nm) rfl))
      have HA : Hid (Alone w w15 g) := Lib.hid (hws ▸ (alone_new HA.out (p := ⟨T, 0, none⟩) (by show w.heap.size ≤ T; omega) (.string nm)))
      have HT : Hid (Whole w15 w.heap.size 28 #[.string ⟨#[]⟩, .int .i64 0, .int .i64 0, .int .i64 0, .int .i64 0, .int .i64 0, .int .i64 0, .int .i64 0, .int .u32 0, .int .i64 0, .int .i64 0, .bool false, .bool false, .int .i64 0]) := Lib.hid (hws ▸ (HT.out.other (p := ⟨T, 0, none⟩) (by show w.heap.size ≠ T; omega) (.string nm)))
      clear hws
      clear kn
      have epos : 46 + ln = ln + 46 := Nat.add_comm _ _
      rw [epos] at HR
      clear epos
      obtain ⟨KR, hKR⟩ : ∃ k, bad (clR bs n ln mk) = k := ⟨_, rfl⟩
      refine (rwide_any g T A n cap bs ln pk sz pl nm ty tmo td th tmi ts me cr lt mk p8 z8 at8 ip iz il KR w w15 hwT HA.out HT.out HR.out hn hnc hcc (by omega) n11 n12 n13 hip hiz hil hmk hgl hKR).mono ?_
      rintro e wx ⟨he, hA2, hRT⟩
      have HA := Lib.hid hA2
      clear hA2
      rcases Decidable.em (KR = 0) with kr0 | kr0
      rotate_left
      · rw [if_neg kr0] at he
        subst he
        have hk := Lib.hid (show K = KR by
          rw [← HK.out]
          simp only [clC, b12, nou, b13, b14, List.cons_append, List.nil_append, bad, if_true, beq_self_eq_true]
          rw [bad_app1 _ _ (by rw [hKR]; exact kr0), hKR])
        clear hRT hKR
        go_wp2
        simp [bodyPost]
        exact RdH.no (by rw [hk.out]; exact kr0) (by rw [hk.out]) HA.out
      rw [if_pos kr0] at he
      subst he
      obtain ⟨hR2, hT2⟩ := hRT kr0
      have HR := Lib.hid hR2
      have HT := Lib.hid hT2
      have HK2 : Hid (bad (clD fk K0) = K) := Lib.hid (by
        rw [← HK.out]
        simp only [clC, b12, nou, b13, b14, List.cons_append, List.nil_append, bad, if_true, beq_self_eq_true]
        rw [bad_app0 _ _ (by rw [hKR]; exact kr0) (by intro x hx; simp only [clR, List.mem_cons, List.not_mem_nil, or_false] at hx; rcases hx with rfl | rfl | rfl | rfl | rfl | rfl | rfl | rfl <;> simp)])
      clear HK hR2 hT2 hRT hKR kr0
      have HK := HK2
      have x0 := HR.out.2.2.1.cell 0
      have x1 := HR.out.2.2.1.cell 1
      have x2 := HR.out.2.2.1.cell 2
      have x3 := HR.out.2.2.1.cell 3
      have x4 := HR.out.2.2.1.cell 4
      have x5 := HR.out.2.2.1.cell 5
      have x6 := HR.out.2.2.1.cell 6
      have x7 := HR.out.2.2.1.cell 7
      have x8 := HR.out.2.2.1.cell 8
      have x9 := HR.out.2.2.1.cell 9
      have x10 := HR.out.2.2.1.cell 10
      have x11 := HR.out.2.2.1.cell 11
      have x12 := HR.out.2.2.1.cell 12
      have x13 := HR.out.2.2.1.cell 13
      simp at x0 x1 x2 x3 x4 x5 x6 x7 x8 x9 x10 x11 x12 x13
      go_wp2_with fail
      clear x0 x1 x2 x3 x4 x5 x6 x7 x8 x9 x10 x11 x12 x13 
      refine (hflags_any nm ty tmo td th tmi ts me cr ip iz true lt wx hnz).mono ?_
      rw [HFL.out]
      rintro e wx ⟨rfl, hb⟩
      have HA := Lib.hid (HA.out.trans (Alone.of_below hb g))
      have HT := Lib.hid (HT.out.below' hb)
      have HR := Lib.hid (HR.out.below hb)
      clear hb
      have x0 := HR.out.2.2.1.cell 0
      have x1 := HR.out.2.2.1.cell 1
      have x2 := HR.out.2.2.1.cell 2
      have x3 := HR.out.2.2.1.cell 3
      have x4 := HR.out.2.2.1.cell 4
      have x5 := HR.out.2.2.1.cell 5
      have x6 := HR.out.2.2.1.cell 6
      have x7 := HR.out.2.2.1.cell 7
      have x8 := HR.out.2.2.1.cell 8
      have x9 := HR.out.2.2.1.cell 9
      have x10 := HR.out.2.2.1.cell 10
      have x11 := HR.out.2.2.1.cell 11
      have x12 := HR.out.2.2.1.cell 12
      have x13 := HR.out.2.2.1.cell 13
      simp at x0 x1 x2 x3 x4 x5 x6 x7 x8 x9 x10 x11 x12 x13
      go_wp2_with fail
      rcases Bool.eq_false_or_eq_true fk with efk | efk
      rotate_left
      · rw [efk]
        have hk := Lib.hid (show K = 32 by rw [← HK.out]; simp [bad, clD, efk])
        refine (check_false 32 _).mono ?_
        rintro e w20 ⟨rfl, rfl⟩
        go_wp2
        simp [bodyPost]
        exact RdH.no (by rw [hk.out]; decide) (by rw [hk.out]) HA.out
      rw [efk]
      refine (check_true 32 _).mono ?_
      rintro e wy ⟨rfl, rfl⟩
      clear x0 x1 x2 x3 x4 x5 x6 x7 x8 x9 x10 x11 x12 x13 
      have x0 := fun mm => ((HR.out.below (World.over_below wx mm)).2.2.1).cell 0
      have x1 := fun mm => ((HR.out.below (World.over_below wx mm)).2.2.1).cell 1
      have x2 := fun mm => ((HR.out.below (World.over_below wx mm)).2.2.1).cell 2
      have x3 := fun mm => ((HR.out.below (World.over_below wx mm)).2.2.1).cell 3
      have x4 := fun mm => ((HR.out.below (World.over_below wx mm)).2.2.1).cell 4
      have x5 := fun mm => ((HR.out.below (World.over_below wx mm)).2.2.1).cell 5
      have x6 := fun mm => ((HR.out.below (World.over_below wx mm)).2.2.1).cell 6
      have x7 := fun mm => ((HR.out.below (World.over_below wx mm)).2.2.1).cell 7
      have x8 := fun mm => ((HR.out.below (World.over_below wx mm)).2.2.1).cell 8
      have x9 := fun mm => ((HR.out.below (World.over_below wx mm)).2.2.1).cell 9
      have x10 := fun mm => ((HR.out.below (World.over_below wx mm)).2.2.1).cell 10
      have x11 := fun mm => ((HR.out.below (World.over_below wx mm)).2.2.1).cell 11
      have x12 := fun mm => ((HR.out.below (World.over_below wx mm)).2.2.1).cell 12
      have x13 := fun mm => ((HR.out.below (World.over_below wx mm)).2.2.1).cell 13
      simp at x0 x1 x2 x3 x4 x5 x6 x7 x8 x9 x10 x11 x12 x13
      go_wp2_with fail
      refine wp_region_free_tail2 3 [2] (by kernel_rfl) (by kernel_rfl) (by kernel_rfl) (by kernel_rfl) ?_
      simp only [List.take_succ_cons, List.take_zero, List.drop_succ_cons, List.drop_zero]
      iterate 2 (first | ((with_reducible refine vfree_skip rfl ?_ ?_); (focus rfl); intro K hK; go_big_quiet_op; go_big_quiet_on) | ((with_reducible refine vfree_hard ?_ ?_ ?_); (focus rfl); (focus rfl); intro K hK; go_big_quiet_op; go_big_quiet_on))
      refine vfree_one (.int .i64 K0) rfl rfl rfl (fun w' hw' => ?_) ?_
      · have hb := hw'.1.below
        go_simp
        all_goals exact (XHC.out w' ((HE.out.alone HA.out hg3).below hb)).mono fun _ _ ⟨h1, h2⟩ => ⟨h1, h2⟩
      intro K hK
      go_big_quiet_op
      go_big_quiet_on
      refine vfree_nil ?_
      intro w30 hb30 hk30
      have HA := Lib.hid (HA.out.trans (Alone.of_below hb30 g))
      have HT := Lib.hid (HT.out.below' hb30)
      have HR := Lib.hid (HR.out.below hb30)
      clear hb30 hk30 x0 x1 x2 x3 x4 x5 x6 x7 x8 x9 x10 x11 x12 x13
      go_wp2_with fail
      rcases Decidable.em (K0 = 0) with e0 | e0
      rotate_left
      · have e0' : (K0 == 0) = false := by simpa using e0
        have hk := Lib.hid (show K = K0 by rw [← HK.out]; simp [bad, clD, efk, e0'])
        refine (must_header_bad nm ty tmo td th tmi ts me cr ip iz true lt il K0 _ e0').mono ?_
        rintro e w20 ⟨rfl, hb⟩
        have HA := Lib.hid (HA.out.trans (Alone.of_below hb g))
        clear hb
        go_wp2
        simp [bodyPost]
        exact RdH.no (by rw [hk.out]; exact e0) (by rw [hk.out]) HA.out
      rw [e0]
      have hk := Lib.hid (show K = 0 by rw [← HK.out]; simp [bad, clD, efk, e0])
      refine (must_header nm ty tmo td th tmi ts me cr ip iz true lt il _).mono ?_
      rintro e w31 ⟨rfl, hb⟩
      have HA := Lib.hid (HA.out.trans (Alone.of_below hb g))
      have HT := Lib.hid (HT.out.below' hb)
      have HR := Lib.hid (HR.out.below hb)
      clear hb e0
      have y0 := HT.out.free 0
      have x0 := HT.out.cell 0
      have y1 := HT.out.free 1
      have x1 := HT.out.cell 1
      have y2 := HT.out.free 2
      have x2 := HT.out.cell 2
      have y3 := HT.out.free 3
      have x3 := HT.out.cell 3
      have y4 := HT.out.free 4
      have x4 := HT.out.cell 4
      have y5 := HT.out.free 5
      have x5 := HT.out.cell 5
      have y6 := HT.out.free 6
      have x6 := HT.out.cell 6
      have y7 := HT.out.free 7
      have x7 := HT.out.cell 7
      have y8 := HT.out.free 8
      have x8 := HT.out.cell 8
      have y9 := HT.out.free 9
      have x9 := HT.out.cell 9
      have y10 := HT.out.free 10
      have x10 := HT.out.cell 10
      have y11 := HT.out.free 11
      have x11 := HT.out.cell 11
      have y12 := HT.out.free 12
      have x12 := HT.out.cell 12
      have y13 := HT.out.free 13
      have x13 := HT.out.cell 13
      have hl31 := HT.out.lt
      simp at x0 x1 x2 x3 x4 x5 x6 x7 x8 x9 x10 x11 x12 x13
      go_wp2
      have hgn : g ≠ w.heap.size := by omega
      have HG : Hid (Whole w31 g 70 #[.slice A n cap, .int .i64 ((ln + 74 : Nat) : Int)]) := Lib.hid HR.out.1
      clear hl31 y0 x0 y1 x1 y2 x2 y3 x3 y4 x4 y5 x5 y6 x6 y7 x7 y8 x8 y9 x9 y10 x10 y11 x11 y12 x12 y13 x13
      obtain ⟨u0, hwf⟩ : ∃ x, (w31.setCell ⟨w.heap.size, 0, none⟩ (.string nm)) = x := ⟨_, rfl⟩
      rw [hwf]
      have HT : Hid (Whole u0 w.heap.size 28 #[.string nm, .int .i64 0, .int .i64 0, .int .i64 0, .int .i64 0, .int .i64 0, .int .i64 0, .int .i64 0, .int .u32 0, .int .i64 0, .int .i64 0, .bool false, .bool false, .int .i64 0]) := Lib.hid (hwf ▸ HT.out.put 0 (.string nm) rfl)
      have HA : Hid (Alone w u0 g) := Lib.hid (hwf ▸ alone_new HA.out (p := ⟨w.heap.size, 0, none⟩) (Nat.le_refl _) (.string nm))
      have HG : Hid (Whole u0 g 70 #[.slice A n cap, .int .i64 ((ln + 74 : Nat) : Int)]) := Lib.hid (hwf ▸ HG.out.other (p := ⟨w.heap.size, 0, none⟩) hgn (.string nm))
      clear hwf
      obtain ⟨u1, hwf⟩ : ∃ x, (u0.setCell ⟨w.heap.size, 1, none⟩ (.int .i64 ty)) = x := ⟨_, rfl⟩
      rw [hwf]
      have HT : Hid (Whole u1 w.heap.size 28 #[.string nm, .int .i64 ty, .int .i64 0, .int .i64 0, .int .i64 0, .int .i64 0, .int .i64 0, .int .i64 0, .int .u32 0, .int .i64 0, .int .i64 0, .bool false, .bool false, .int .i64 0]) := Lib.hid (hwf ▸ HT.out.put 1 (.int .i64 ty) rfl)
      have HA : Hid (Alone w u1 g) := Lib.hid (hwf ▸ alone_new HA.out (p := ⟨w.heap.size, 1, none⟩) (Nat.le_refl _) (.int .i64 ty))
      have HG : Hid (Whole u1 g 70 #[.slice A n cap, .int .i64 ((ln + 74 : Nat) : Int)]) := Lib.hid (hwf ▸ HG.out.other (p := ⟨w.heap.size, 1, none⟩) hgn (.int .i64 ty))
      clear hwf
      obtain ⟨u2, hwf⟩ : ∃ x, (u1.setCell ⟨w.heap.size, 2, none⟩ (.int .i64 tmo)) = x := ⟨_, rfl⟩
      rw [hwf]
      have HT : Hid (Whole u2 w.heap.size 28 #[.string nm, .int .i64 ty, .int .i64 tmo, .int .i64 0, .int .i64 0, .int .i64 0, .int .i64 0, .int .i64 0, .int .u32 0, .int .i64 0, .int .i64 0, .bool false, .bool false, .int .i64 0]) := Lib.hid (hwf ▸ HT.out.put 2 (.int .i64 tmo) rfl)
      have HA : Hid (Alone w u2 g) := Lib.hid (hwf ▸ alone_new HA.out (p := ⟨w.heap.size, 2, none⟩) (Nat.le_refl _) (.int .i64 tmo))
      have HG : Hid (Whole u2 g 70 #[.slice A n cap, .int .i64 ((ln + 74 : Nat) : Int)]) := Lib.hid (hwf ▸ HG.out.other (p := ⟨w.heap.size, 2, none⟩) hgn (.int .i64 tmo))
      clear hwf
      obtain ⟨u3, hwf⟩ : ∃ x, (u2.setCell ⟨w.heap.size, 3, none⟩ (.int .i64 td)) = x := ⟨_, rfl⟩
      rw [hwf]
      have HT : Hid (Whole u3 w.heap.size 28 #[.string nm, .int .i64 ty, .int .i64 tmo, .int .i64 td, .int .i64 0, .int .i64 0, .int .i64 0, .int .i64 0, .int .u32 0, .int .i64 0, .int .i64 0, .bool false, .bool false, .int .i64 0]) := Lib.hid (hwf ▸ HT.out.put 3 (.int .i64 td) rfl)
      have HA : Hid (Alone w u3 g) := Lib.hid (hwf ▸ alone_new HA.out (p := ⟨w.heap.size, 3, none⟩) (Nat.le_refl _) (.int .i64 td))
      have HG : Hid (Whole u3 g 70 #[.slice A n cap, .int .i64 ((ln + 74 : Nat) : Int)]) := Lib.hid (hwf ▸ HG.out.other (p := ⟨w.heap.size, 3, none⟩) hgn (.int .i64 td))
      clear hwf
      obtain ⟨u4, hwf⟩ : ∃ x, (u3.setCell ⟨w.heap.size, 4, none⟩ (.int .i64 th)) = x := ⟨_, rfl⟩
      rw [hwf]
      have HT : Hid (Whole u4 w.heap.size 28 #[.string nm, .int .i64 ty, .int .i64 tmo, .int .i64 td, .int .i64 th, .int .i64 0, .int .i64 0, .int .i64 0, .int .u32 0, .int .i64 0, .int .i64 0, .bool false, .bool false, .int .i64 0]) := Lib.hid (hwf ▸ HT.out.put 4 (.int .i64 th) rfl)
      have HA : Hid (Alone w u4 g) := Lib.hid (hwf ▸ alone_new HA.out (p := ⟨w.heap.size, 4, none⟩) (Nat.le_refl _) (.int .i64 th))
      have HG : Hid (Whole u4 g 70 #[.slice A n cap, .int .i64 ((ln + 74 : Nat) : Int)]) := Lib.hid (hwf ▸ HG.out.other (p := ⟨w.heap.size, 4, none⟩) hgn (.int .i64 th))
      clear hwf
      obtain ⟨u5, hwf⟩ : ∃ x, (u4.setCell ⟨w.heap.size, 5, none⟩ (.int .i64 tmi)) = x := ⟨_, rfl⟩
      rw [hwf]
      have HT : Hid (Whole u5 w.heap.size 28 #[.string nm, .int .i64 ty, .int .i64 tmo, .int .i64 td, .int .i64 th, .int .i64 tmi, .int .i64 0, .int .i64 0, .int .u32 0, .int .i64 0, .int .i64 0, .bool false, .bool false, .int .i64 0]) := Lib.hid (hwf ▸ HT.out.put 5 (.int .i64 tmi) rfl)
      have HA : Hid (Alone w u5 g) := Lib.hid (hwf ▸ alone_new HA.out (p := ⟨w.heap.size, 5, none⟩) (Nat.le_refl _) (.int .i64 tmi))
      have HG : Hid (Whole u5 g 70 #[.slice A n cap, .int .i64 ((ln + 74 : Nat) : Int)]) := Lib.hid (hwf ▸ HG.out.other (p := ⟨w.heap.size, 5, none⟩) hgn (.int .i64 tmi))
      clear hwf
      obtain ⟨u6, hwf⟩ : ∃ x, (u5.setCell ⟨w.heap.size, 6, none⟩ (.int .i64 ts)) = x := ⟨_, rfl⟩
      rw [hwf]
      have HT : Hid (Whole u6 w.heap.size 28 #[.string nm, .int .i64 ty, .int .i64 tmo, .int .i64 td, .int .i64 th, .int .i64 tmi, .int .i64 ts, .int .i64 0, .int .u32 0, .int .i64 0, .int .i64 0, .bool false, .bool false, .int .i64 0]) := Lib.hid (hwf ▸ HT.out.put 6 (.int .i64 ts) rfl)
      have HA : Hid (Alone w u6 g) := Lib.hid (hwf ▸ alone_new HA.out (p := ⟨w.heap.size, 6, none⟩) (Nat.le_refl _) (.int .i64 ts))
      have HG : Hid (Whole u6 g 70 #[.slice A n cap, .int .i64 ((ln + 74 : Nat) : Int)]) := Lib.hid (hwf ▸ HG.out.other (p := ⟨w.heap.size, 6, none⟩) hgn (.int .i64 ts))
      clear hwf
      obtain ⟨u7, hwf⟩ : ∃ x, (u6.setCell ⟨w.heap.size, 7, none⟩ (.int .i64 (me : Nat))) = x := ⟨_, rfl⟩
      rw [hwf]
      have HT : Hid (Whole u7 w.heap.size 28 #[.string nm, .int .i64 ty, .int .i64 tmo, .int .i64 td, .int .i64 th, .int .i64 tmi, .int .i64 ts, .int .i64 (me : Nat), .int .u32 0, .int .i64 0, .int .i64 0, .bool false, .bool false, .int .i64 0]) := Lib.hid (hwf ▸ HT.out.put 7 (.int .i64 (me : Nat)) rfl)
      have HA : Hid (Alone w u7 g) := Lib.hid (hwf ▸ alone_new HA.out (p := ⟨w.heap.size, 7, none⟩) (Nat.le_refl _) (.int .i64 (me : Nat)))
      have HG : Hid (Whole u7 g 70 #[.slice A n cap, .int .i64 ((ln + 74 : Nat) : Int)]) := Lib.hid (hwf ▸ HG.out.other (p := ⟨w.heap.size, 7, none⟩) hgn (.int .i64 (me : Nat)))
      clear hwf
      obtain ⟨u8, hwf⟩ : ∃ x, (u7.setCell ⟨w.heap.size, 8, none⟩ (.int .u32 (cr : Nat))) = x := ⟨_, rfl⟩
      rw [hwf]
      have HT : Hid (Whole u8 w.heap.size 28 #[.string nm, .int .i64 ty, .int .i64 tmo, .int .i64 td, .int .i64 th, .int .i64 tmi, .int .i64 ts, .int .i64 (me : Nat), .int .u32 (cr : Nat), .int .i64 0, .int .i64 0, .bool false, .bool false, .int .i64 0]) := Lib.hid (hwf ▸ HT.out.put 8 (.int .u32 (cr : Nat)) rfl)
      have HA : Hid (Alone w u8 g) := Lib.hid (hwf ▸ alone_new HA.out (p := ⟨w.heap.size, 8, none⟩) (Nat.le_refl _) (.int .u32 (cr : Nat)))
      have HG : Hid (Whole u8 g 70 #[.slice A n cap, .int .i64 ((ln + 74 : Nat) : Int)]) := Lib.hid (hwf ▸ HG.out.other (p := ⟨w.heap.size, 8, none⟩) hgn (.int .u32 (cr : Nat)))
      clear hwf
      obtain ⟨u9, hwf⟩ : ∃ x, (u8.setCell ⟨w.heap.size, 9, none⟩ (.int .i64 ip)) = x := ⟨_, rfl⟩
      rw [hwf]
      have HT : Hid (Whole u9 w.heap.size 28 #[.string nm, .int .i64 ty, .int .i64 tmo, .int .i64 td, .int .i64 th, .int .i64 tmi, .int .i64 ts, .int .i64 (me : Nat), .int .u32 (cr : Nat), .int .i64 ip, .int .i64 0, .bool false, .bool false, .int .i64 0]) := Lib.hid (hwf ▸ HT.out.put 9 (.int .i64 ip) rfl)
      have HA : Hid (Alone w u9 g) := Lib.hid (hwf ▸ alone_new HA.out (p := ⟨w.heap.size, 9, none⟩) (Nat.le_refl _) (.int .i64 ip))
      have HG : Hid (Whole u9 g 70 #[.slice A n cap, .int .i64 ((ln + 74 : Nat) : Int)]) := Lib.hid (hwf ▸ HG.out.other (p := ⟨w.heap.size, 9, none⟩) hgn (.int .i64 ip))
      clear hwf
      obtain ⟨u10, hwf⟩ : ∃ x, (u9.setCell ⟨w.heap.size, 10, none⟩ (.int .i64 iz)) = x := ⟨_, rfl⟩
      rw [hwf]
      have HT : Hid (Whole u10 w.heap.size 28 #[.string nm, .int .i64 ty, .int .i64 tmo, .int .i64 td, .int .i64 th, .int .i64 tmi, .int .i64 ts, .int .i64 (me : Nat), .int .u32 (cr : Nat), .int .i64 ip, .int .i64 iz, .bool false, .bool false, .int .i64 0]) := Lib.hid (hwf ▸ HT.out.put 10 (.int .i64 iz) rfl)
      have HA : Hid (Alone w u10 g) := Lib.hid (hwf ▸ alone_new HA.out (p := ⟨w.heap.size, 10, none⟩) (Nat.le_refl _) (.int .i64 iz))
      have HG : Hid (Whole u10 g 70 #[.slice A n cap, .int .i64 ((ln + 74 : Nat) : Int)]) := Lib.hid (hwf ▸ HG.out.other (p := ⟨w.heap.size, 10, none⟩) hgn (.int .i64 iz))
      clear hwf
      obtain ⟨u11, hwf⟩ : ∃ x, (u10.setCell ⟨w.heap.size, 11, none⟩ (.bool true)) = x := ⟨_, rfl⟩
      rw [hwf]
      have HT : Hid (Whole u11 w.heap.size 28 #[.string nm, .int .i64 ty, .int .i64 tmo, .int .i64 td, .int .i64 th, .int .i64 tmi, .int .i64 ts, .int .i64 (me : Nat), .int .u32 (cr : Nat), .int .i64 ip, .int .i64 iz, .bool true, .bool false, .int .i64 0]) := Lib.hid (hwf ▸ HT.out.put 11 (.bool true) rfl)
      have HA : Hid (Alone w u11 g) := Lib.hid (hwf ▸ alone_new HA.out (p := ⟨w.heap.size, 11, none⟩) (Nat.le_refl _) (.bool true))
      have HG : Hid (Whole u11 g 70 #[.slice A n cap, .int .i64 ((ln + 74 : Nat) : Int)]) := Lib.hid (hwf ▸ HG.out.other (p := ⟨w.heap.size, 11, none⟩) hgn (.bool true))
      clear hwf
      obtain ⟨u12, hwf⟩ : ∃ x, (u11.setCell ⟨w.heap.size, 12, none⟩ (.bool lt)) = x := ⟨_, rfl⟩
      rw [hwf]
      have HT : Hid (Whole u12 w.heap.size 28 #[.string nm, .int .i64 ty, .int .i64 tmo, .int .i64 td, .int .i64 th, .int .i64 tmi, .int .i64 ts, .int .i64 (me : Nat), .int .u32 (cr : Nat), .int .i64 ip, .int .i64 iz, .bool true, .bool lt, .int .i64 0]) := Lib.hid (hwf ▸ HT.out.put 12 (.bool lt) rfl)
      have HA : Hid (Alone w u12 g) := Lib.hid (hwf ▸ alone_new HA.out (p := ⟨w.heap.size, 12, none⟩) (Nat.le_refl _) (.bool lt))
      have HG : Hid (Whole u12 g 70 #[.slice A n cap, .int .i64 ((ln + 74 : Nat) : Int)]) := Lib.hid (hwf ▸ HG.out.other (p := ⟨w.heap.size, 12, none⟩) hgn (.bool lt))
      clear hwf
      obtain ⟨u13, hwf⟩ : ∃ x, (u12.setCell ⟨w.heap.size, 13, none⟩ (.int .i64 il)) = x := ⟨_, rfl⟩
      rw [hwf]
      have HT : Hid (Whole u13 w.heap.size 28 #[.string nm, .int .i64 ty, .int .i64 tmo, .int .i64 td, .int .i64 th, .int .i64 tmi, .int .i64 ts, .int .i64 (me : Nat), .int .u32 (cr : Nat), .int .i64 ip, .int .i64 iz, .bool true, .bool lt, .int .i64 il]) := Lib.hid (hwf ▸ HT.out.put 13 (.int .i64 il) rfl)
      have HA : Hid (Alone w u13 g) := Lib.hid (hwf ▸ alone_new HA.out (p := ⟨w.heap.size, 13, none⟩) (Nat.le_refl _) (.int .i64 il))
      have HG : Hid (Whole u13 g 70 #[.slice A n cap, .int .i64 ((ln + 74 : Nat) : Int)]) := Lib.hid (hwf ▸ HG.out.other (p := ⟨w.heap.size, 13, none⟩) hgn (.int .i64 il))
      clear hwf
      have HM := HT
      have h0 := HM.out.cell 0
      have h1 := HM.out.cell 1
      have h2 := HM.out.cell 2
      have h3 := HM.out.cell 3
      have h4 := HM.out.cell 4
      have h5 := HM.out.cell 5
      have h6 := HM.out.cell 6
      have h7 := HM.out.cell 7
      have h8 := HM.out.cell 8
      have h9 := HM.out.cell 9
      have h10 := HM.out.cell 10
      have h11 := HM.out.cell 11
      have h12 := HM.out.cell 12
      have h13 := HM.out.cell 13
      simp at h0 h1 h2 h3 h4 h5 h6 h7 h8 h9 h10 h11 h12 h13
      simp [bodyPost, results, Tryd.results17, go_sem, h0, h1, h2, h3, h4, h5, h6, h7, h8, h9, h10, h11, h12, h13]
      exact RdH.yes hk.out HA.out HG.out
end Go.Proofs.YtdmglpnieiiigaaDoor
