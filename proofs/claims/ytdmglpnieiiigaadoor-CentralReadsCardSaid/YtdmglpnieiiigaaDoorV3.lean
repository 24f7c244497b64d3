/- What follows the name of a wide entry. -/
import Derived.Test.YtdmglpnieiiigaaDoorV2
namespace Go.Proofs.YtdmglpnieiiigaaDoor
open Go.RowKit

def clR (bs : List UInt8) (n ln : Nat) (mk : Bool) : List (Bool × Int) := [(mk, 13), (decide (ln + 48 ≤ n), 4), (num ((bs.drop (ln + 46)).take 2) == 1, 36), (decide (ln + 50 ≤ n), 4), (num ((bs.drop (ln + 48)).take 2) == 24, 36), (decide (ln + 58 ≤ n), 4), (decide (ln + 66 ≤ n), 4), (decide (ln + 74 ≤ n), 4)]
def clD (fk : Bool) (K0 : Int) : List (Bool × Int) := [(fk, 32), (K0 == 0, K0)]
def clC (bs : List UInt8) (n ln : Nat) (mk fk : Bool) (K0 : Int) : List (Bool × Int) := [(decide (42 ≤ n), 4), (num ((bs.drop 38).take 4) == 2175008768, 36), (decide (46 ≤ n), 4), (decide (46 + ln ≤ n), 4)] ++ (clR bs n ln mk ++ clD fk K0)
def clW (bs : List UInt8) (n : Nat) (tk : Bool) (ln : Nat) (mk fk : Bool) (K0 : Int) : List (Bool × Int) := [(decide (4 ≤ n), 4), (num (bs.take 4) == 33639248, 30), (decide (6 ≤ n), 4), (num ((bs.drop 4).take 2) == 788, 31), (decide (8 ≤ n), 4), (decide (10 ≤ n), 4), (decide (12 ≤ n), 4), (decide (14 ≤ n), 4), (decide (16 ≤ n), 4), (tk, 34), (decide (20 ≤ n), 4), (decide (24 ≤ n), 4), (decide (28 ≤ n), 4), (decide (30 ≤ n), 4), (decide (32 ≤ n), 4), (num ((bs.drop 30).take 2) == 28, 36)] ++ (zl bs n 3 32 ++ clC bs n ln mk fk K0)
theorem bad_app1 : ∀ (l1 l2 : List (Bool × Int)), bad l1 ≠ 0 → bad (l1 ++ l2) = bad l1
  | [], _, h => absurd rfl h
  | (b, c) :: l, l2, h => by
    show bad ((b, c) :: (l ++ l2)) = _
    unfold bad at h ⊢
    cases b with
    | false => rfl
    | true =>
      rw [if_pos rfl] at h
      rw [if_pos rfl, if_pos rfl]
      exact bad_app1 l l2 h
theorem bad_app0 : ∀ (l1 l2 : List (Bool × Int)), bad l1 = 0 → (∀ x ∈ l1, x.1 = false → x.2 ≠ 0) → bad (l1 ++ l2) = bad l2
  | [], _, _, _ => rfl
  | (b, c) :: l, l2, h, hz => by
    show bad ((b, c) :: (l ++ l2)) = _
    unfold bad at h
    cases b with
    | false =>
      rw [if_neg (by simp)] at h
      exact absurd h (hz (false, c) List.mem_cons_self rfl)
    | true =>
      rw [if_pos rfl] at h
      show (if true = true then bad (l ++ l2) else c) = _
      rw [if_pos rfl]
      exact bad_app0 l l2 h fun x hx => hz x (List.mem_cons_of_mem _ hx)
theorem muchs (pk sz pl : Nat) (mk : Bool) (h : ((pk == 4294967295) && ((sz == 4294967295) && (pl == 4294967295))) = mk) :
    (((pk : Int) == 4294967295) = false ∧ mk = false) ∨ (((pk : Int) == 4294967295) = true ∧ ((sz : Int) == 4294967295) = false ∧ mk = false) ∨ (((pk : Int) == 4294967295) = true ∧ ((sz : Int) == 4294967295) = true ∧ ((pl : Int) == 4294967295) = false ∧ mk = false) ∨ (((pk : Int) == 4294967295) = true ∧ ((sz : Int) == 4294967295) = true ∧ ((pl : Int) == 4294967295) = true ∧ mk = true) := by
  have e : ∀ a : Nat, ((a : Int) == 4294967295) = (a == 4294967295) := fun a => natbeq a 4294967295
  rw [e, e, e]
  cases h1 : (pk == 4294967295) <;> cases h2 : (sz == 4294967295) <;> cases h3 : (pl == 4294967295) <;> rw [h1, h2, h3] at h <;> simp at h <;> simp [h]
def RwP (w : World) (g T : Nat) (A : Option Addr) (n cap : Nat) (bs : List UInt8) (L : Nat) (K : Int) (t : Array Value) (e : Ending) (w' : World) : Prop := e = (if K = 0 then .returned (.tuple #[]) else .panicked [{ v := fault K, recovered := false }]) ∧ Alone w w' g ∧ (K = 0 → RS w' g T A n cap bs L t ∧ Whole w' w.heap.size 28 #[.string ⟨#[]⟩, .int .i64 0, .int .i64 0, .int .i64 0, .int .i64 0, .int .i64 0, .int .i64 0, .int .i64 0, .int .u32 0, .int .i64 0, .int .i64 0, .bool false, .bool false, .int .i64 0])
theorem RwP.no {w w' : World} {g T : Nat} {A : Option Addr} {n cap : Nat} {bs : List UInt8} {L : Nat} {K k : Int} {t : Array Value} (h : K ≠ 0) (hk : K = k) (ha : Alone w w' g) : RwP w g T A n cap bs L K t (.panicked [{ v := fault k, recovered := false }]) w' := by
  subst hk
  exact ⟨by rw [if_neg h], ha, fun h0 => absurd h0 h⟩
theorem RwP.yes {w w' : World} {g T : Nat} {A : Option Addr} {n cap : Nat} {bs : List UInt8} {L : Nat} {K : Int} {t : Array Value} (h : K = 0) (ha : Alone w w' g) (hr : RS w' g T A n cap bs L t) (ht : Whole w' w.heap.size 28 #[.string ⟨#[]⟩, .int .i64 0, .int .i64 0, .int .i64 0, .int .i64 0, .int .i64 0, .int .i64 0, .int .i64 0, .int .u32 0, .int .i64 0, .int .i64 0, .bool false, .bool false, .int .i64 0]) : RwP w g T A n cap bs L K t (.returned (.tuple #[])) w' :=
  ⟨by rw [if_pos h], ha, fun _ => ⟨hr, ht⟩⟩
set_option maxHeartbeats 16000000 in
set_option maxRecDepth 100000 in
theorem rwide_any (g T : Nat) (A : Option Addr) (n cap : Nat) (bs : List UInt8) (ln pk sz pl : Nat) (nm : ByteArray) (ty tmo td th tmi ts : Int) (me c : Nat) (lt mk : Bool) (p8 z8 at8 : Nat) (ip iz il K : Int) (w wx : World) (hwT : w.heap.size < T) (hA : Alone w wx g) (hT : Whole wx w.heap.size 28 #[.string ⟨#[]⟩, .int .i64 0, .int .i64 0, .int .i64 0, .int .i64 0, .int .i64 0, .int .i64 0, .int .i64 0, .int .u32 0, .int .i64 0, .int .i64 0, .bool false, .bool false, .int .i64 0]) (hR : RS wx g T A n cap bs (ln + 46) #[.string nm, .int .i64 ty, .int .i64 tmo, .int .i64 td, .int .i64 th, .int .i64 tmi, .int .i64 ts, .int .i64 (me : Nat), .int .u32 (c : Nat), .int .i64 (pk : Nat), .int .i64 (sz : Nat), .bool true, .bool lt, .int .i64 (pl : Nat)]) (hn : n ≤ 1000) (hnc : n ≤ cap) (hcc : cap ≤ 9223372036854775807) (hq : ln + 46 ≤ n)
    (n11 : num ((bs.drop (ln + 50)).take 8) = z8) (n12 : num ((bs.drop (ln + 58)).take 8) = p8) (n13 : num ((bs.drop (ln + 66)).take 8) = at8) (hip : IntKind.i64.wrap (p8 : Int) = ip) (hiz : IntKind.i64.wrap (z8 : Int) = iz) (hil : IntKind.i64.wrap (at8 : Int) = il) (hmk : ((pk == 4294967295) && ((sz == 4294967295) && (pl == 4294967295))) = mk) (hgl : g < w.heap.size) (hK : bad (clR bs n ln mk) = K) :
    Calls Tryd.prog 42 #[.pointer (some ⟨T, 0, none⟩), .pointer (some ⟨g, 0, none⟩)] wx (RwP w g T A n cap bs (ln + 74) K #[.string nm, .int .i64 ty, .int .i64 tmo, .int .i64 td, .int .i64 th, .int .i64 tmi, .int .i64 ts, .int .i64 (me : Nat), .int .u32 (c : Nat), .int .i64 ip, .int .i64 iz, .bool true, .bool lt, .int .i64 il]) := by
  have HK := Lib.hid hK
  have HA := Lib.hid hA
  have HT := Lib.hid hT
  have HR := Lib.hid hR
  have hm := muchs pk sz pl mk hmk
  have ki1 : wrap64 (p8 : Int) = ip := by rw [← hip, w64]
  have ki2 : wrap64 (z8 : Int) = iz := by rw [← hiz, w64]
  have ki3 : wrap64 (at8 : Int) = il := by rw [← hil, w64]
  have hlT := HR.out.2.2.1.lt
  clear hK hA hT hR hmk
  have x0 := HR.out.2.2.1.cell 0
  have x1 := HR.out.2.2.1.cell 1
  have x2 := HR.out.2.2.1.cell 2
  have x3 := HR.out.2.2.1.cell 3
  have x4 := HR.out.2.2.1.cell 4
  have x5 := HR.out.2.2.1.cell 5
  have x6 := HR.out.2.2.1.cell 6
  have x7 := HR.out.2.2.1.cell 7
  have x8 := HR.out.2.2.1.cell 8
  have x9 := HR.out.2.2.1.cell 9
  have x10 := HR.out.2.2.1.cell 10
  have x11 := HR.out.2.2.1.cell 11
  have x12 := HR.out.2.2.1.cell 12
  have x13 := HR.out.2.2.1.cell 13
  simp at x0 x1 x2 x3 x4 x5 x6 x7 x8 x9 x10 x11 x12 x13
  go_enter Tryd.func42, Tryd.ntmps42
  rcases hm with ⟨m1, hmq⟩ | ⟨m1, m2, hmq⟩ | ⟨m1, m2, m3, hmq⟩ | ⟨m1, m2, m3, hmq⟩
  · skip
    go_wp2_with fail
    have hk := Lib.hid (show K = 13 by rw [← HK.out]; simp [bad, clR, hmq])
    refine (check_false 13 _).mono ?_
    rintro e w20 ⟨rfl, rfl⟩
    go_wp2
    simp [bodyPost]
    exact RwP.no (by rw [hk.out]; decide) (by rw [hk.out]) HA.out
  · skip
    go_wp2_with fail
    have hk := Lib.hid (show K = 13 by rw [← HK.out]; simp [bad, clR, hmq])
    refine (check_false 13 _).mono ?_
    rintro e w20 ⟨rfl, rfl⟩
    go_wp2
    simp [bodyPost]
    exact RwP.no (by rw [hk.out]; decide) (by rw [hk.out]) HA.out
  · skip
    go_wp2_with fail
    have hk := Lib.hid (show K = 13 by rw [← HK.out]; simp [bad, clR, hmq])
    refine (check_false 13 _).mono ?_
    rintro e w20 ⟨rfl, rfl⟩
    go_wp2
    simp [bodyPost]
    exact RwP.no (by rw [hk.out]; decide) (by rw [hk.out]) HA.out
  go_wp2_with fail
  refine (check_true 13 _).mono ?_
  rintro e wy ⟨rfl, rfl⟩
  go_wp2_with fail
  rcases Nat.lt_or_ge n (ln + 48) with l0 | l0
  · have b0 : decide (ln + 48 ≤ n) = false := decide_eq_false (by omega)
    have hk := Lib.hid (show K = 4 by rw [← HK.out]; simp [bad, clR, hmq, b0])
    refine (want_threw _ _ _ _ _ _ (int_short g A n cap bs (ln + 46) 2 _ HR.out.rdr (by omega) (by omega) (by omega) (by omega) (by omega))).mono ?_
    rintro e w20 ⟨rfl, hb⟩
    have HA := Lib.hid (HA.out.trans (Alone.of_below hb g))
    clear hb
    go_wp2
    simp [bodyPost]
    exact RwP.no (by rw [hk.out]; decide) (by rw [hk.out]) HA.out
  have b0 : decide (ln + 48 ≤ n) = true := decide_eq_true l0
  rcases Decidable.em (num ((bs.drop (ln + 46)).take 2) = 1) with ne1 | ne1
  rotate_left
  · have hk := Lib.hid (show K = 36 by rw [← HK.out]; simp [bad, clR, hmq, b0, ne1])
    refine (want_false g A n cap bs (ln + 46) 2 1 36 _ HR.out.rdr (by omega) hnc (by omega) hcc (by omega) (by omega) ne1).mono ?_
    rintro e w20 ⟨rfl, hMv⟩
    have HA := Lib.hid (HA.out.trans hMv.1)
    clear hMv
    go_wp2
    simp [bodyPost]
    exact RwP.no (by rw [hk.out]; decide) (by rw [hk.out]) HA.out
  refine (want_true g A n cap bs (ln + 46) 2 1 36 _ HR.out.rdr (by omega) hnc (by omega) hcc (by omega) (by omega) ne1).mono ?_
  clear x0 x1 x2 x3 x4 x5 x6 x7 x8 x9 x10 x11 x12 x13 
  rintro e wx ⟨rfl, hM⟩
  have HA := Lib.hid (HA.out.trans hM.1)
  have HT := Lib.hid (hM.1.whole HT.out (by omega))
  have HR := Lib.hid (HR.out.moved hM)
  clear hM
  have x0 := HR.out.2.2.1.cell 0
  have x1 := HR.out.2.2.1.cell 1
  have x2 := HR.out.2.2.1.cell 2
  have x3 := HR.out.2.2.1.cell 3
  have x4 := HR.out.2.2.1.cell 4
  have x5 := HR.out.2.2.1.cell 5
  have x6 := HR.out.2.2.1.cell 6
  have x7 := HR.out.2.2.1.cell 7
  have x8 := HR.out.2.2.1.cell 8
  have x9 := HR.out.2.2.1.cell 9
  have x10 := HR.out.2.2.1.cell 10
  have x11 := HR.out.2.2.1.cell 11
  have x12 := HR.out.2.2.1.cell 12
  have x13 := HR.out.2.2.1.cell 13
  simp at x0 x1 x2 x3 x4 x5 x6 x7 x8 x9 x10 x11 x12 x13
  go_wp2_with fail
  rcases Nat.lt_or_ge n (ln + 50) with l1 | l1
  · have b1 : decide (ln + 50 ≤ n) = false := decide_eq_false (by omega)
    have hk := Lib.hid (show K = 4 by rw [← HK.out]; simp [bad, clR, hmq, b0, ne1, b1])
    refine (want_threw _ _ _ _ _ _ (int_short g A n cap bs (ln + 48) 2 _ HR.out.rdr (by omega) (by omega) (by omega) (by omega) (by omega))).mono ?_
    rintro e w20 ⟨rfl, hb⟩
    have HA := Lib.hid (HA.out.trans (Alone.of_below hb g))
    clear hb
    go_wp2
    simp [bodyPost]
    exact RwP.no (by rw [hk.out]; decide) (by rw [hk.out]) HA.out
  have b1 : decide (ln + 50 ≤ n) = true := decide_eq_true l1
  rcases Decidable.em (num ((bs.drop (ln + 48)).take 2) = 24) with ne2 | ne2
  rotate_left
  · have hk := Lib.hid (show K = 36 by rw [← HK.out]; simp [bad, clR, hmq, b0, ne1, b1, ne2])
    refine (want_false g A n cap bs (ln + 48) 2 24 36 _ HR.out.rdr (by omega) hnc (by omega) hcc (by omega) (by omega) ne2).mono ?_
    rintro e w20 ⟨rfl, hMv⟩
    have HA := Lib.hid (HA.out.trans hMv.1)
    clear hMv
    go_wp2
    simp [bodyPost]
    exact RwP.no (by rw [hk.out]; decide) (by rw [hk.out]) HA.out
  refine (want_true g A n cap bs (ln + 48) 2 24 36 _ HR.out.rdr (by omega) hnc (by omega) hcc (by omega) (by omega) ne2).mono ?_
  clear x0 x1 x2 x3 x4 x5 x6 x7 x8 x9 x10 x11 x12 x13 
  rintro e wx ⟨rfl, hM⟩
  have HA := Lib.hid (HA.out.trans hM.1)
  have HT := Lib.hid (hM.1.whole HT.out (by omega))
  have HR := Lib.hid (HR.out.moved hM)
  clear hM
  have x0 := HR.out.2.2.1.cell 0
  have x1 := HR.out.2.2.1.cell 1
  have x2 := HR.out.2.2.1.cell 2
  have x3 := HR.out.2.2.1.cell 3
  have x4 := HR.out.2.2.1.cell 4
  have x5 := HR.out.2.2.1.cell 5
  have x6 := HR.out.2.2.1.cell 6
  have x7 := HR.out.2.2.1.cell 7
  have x8 := HR.out.2.2.1.cell 8
  have x9 := HR.out.2.2.1.cell 9
  have x10 := HR.out.2.2.1.cell 10
  have x11 := HR.out.2.2.1.cell 11
  have x12 := HR.out.2.2.1.cell 12
  have x13 := HR.out.2.2.1.cell 13
  simp at x0 x1 x2 x3 x4 x5 x6 x7 x8 x9 x10 x11 x12 x13
  go_wp2_with fail
  rcases Nat.lt_or_ge n (ln + 58) with l2 | l2
  · have b2 : decide (ln + 58 ≤ n) = false := decide_eq_false (by omega)
    have hk := Lib.hid (show K = 4 by rw [← HK.out]; simp [bad, clR, hmq, b0, ne1, b1, ne2, b2])
    refine (int_short g A n cap bs (ln + 50) 8 _ HR.out.rdr (by omega) (by omega) (by omega) (by omega) (by omega)).mono ?_
    rintro e w20 ⟨rfl, hb⟩
    have HA := Lib.hid (HA.out.trans (Alone.of_below hb g))
    clear hb
    go_wp2
    simp [bodyPost]
    exact RwP.no (by rw [hk.out]; decide) (by rw [hk.out]) HA.out
  have b2 : decide (ln + 58 ≤ n) = true := decide_eq_true l2
  refine (int_get g A n cap bs (ln + 50) 8 z8 _ HR.out.rdr (by omega) hnc (by omega) hcc (by omega) (by omega) n11).mono ?_
  clear x0 x1 x2 x3 x4 x5 x6 x7 x8 x9 x10 x11 x12 x13 
  rintro e wx ⟨rfl, hM⟩
  have HA := Lib.hid (HA.out.trans hM.1)
  have HT := Lib.hid (hM.1.whole HT.out (by omega))
  have HR := Lib.hid (HR.out.moved hM)
  clear hM
  have x0 := HR.out.2.2.1.cell 0
  have x1 := HR.out.2.2.1.cell 1
  have x2 := HR.out.2.2.1.cell 2
  have x3 := HR.out.2.2.1.cell 3
  have x4 := HR.out.2.2.1.cell 4
  have x5 := HR.out.2.2.1.cell 5
  have x6 := HR.out.2.2.1.cell 6
  have x7 := HR.out.2.2.1.cell 7
  have x8 := HR.out.2.2.1.cell 8
  have x9 := HR.out.2.2.1.cell 9
  have x10 := HR.out.2.2.1.cell 10
  have x11 := HR.out.2.2.1.cell 11
  have x12 := HR.out.2.2.1.cell 12
  have x13 := HR.out.2.2.1.cell 13
  simp at x0 x1 x2 x3 x4 x5 x6 x7 x8 x9 x10 x11 x12 x13
  go_wp2_with fail
  rcases Nat.lt_or_ge n (ln + 66) with l3 | l3
  · have b3 : decide (ln + 66 ≤ n) = false := decide_eq_false (by omega)
    have hk := Lib.hid (show K = 4 by rw [← HK.out]; simp [bad, clR, hmq, b0, ne1, b1, ne2, b2, b3])
    refine (int_short g A n cap bs (ln + 58) 8 _ HR.out.rdr (by omega) (by omega) (by omega) (by omega) (by omega)).mono ?_
    rintro e w20 ⟨rfl, hb⟩
    have HA := Lib.hid (HA.out.trans (Alone.of_below hb g))
    clear hb
    go_wp2
    simp [bodyPost]
    exact RwP.no (by rw [hk.out]; decide) (by rw [hk.out]) HA.out
  have b3 : decide (ln + 66 ≤ n) = true := decide_eq_true l3
  refine (int_get g A n cap bs (ln + 58) 8 p8 _ HR.out.rdr (by omega) hnc (by omega) hcc (by omega) (by omega) n12).mono ?_
  clear x0 x1 x2 x3 x4 x5 x6 x7 x8 x9 x10 x11 x12 x13 
  rintro e wx ⟨rfl, hM⟩
  have HA := Lib.hid (HA.out.trans hM.1)
  have HT := Lib.hid (hM.1.whole HT.out (by omega))
  have HR := Lib.hid (HR.out.moved hM)
  clear hM
  have x0 := HR.out.2.2.1.cell 0
  have x1 := HR.out.2.2.1.cell 1
  have x2 := HR.out.2.2.1.cell 2
  have x3 := HR.out.2.2.1.cell 3
  have x4 := HR.out.2.2.1.cell 4
  have x5 := HR.out.2.2.1.cell 5
  have x6 := HR.out.2.2.1.cell 6
  have x7 := HR.out.2.2.1.cell 7
  have x8 := HR.out.2.2.1.cell 8
  have x9 := HR.out.2.2.1.cell 9
  have x10 := HR.out.2.2.1.cell 10
  have x11 := HR.out.2.2.1.cell 11
  have x12 := HR.out.2.2.1.cell 12
  have x13 := HR.out.2.2.1.cell 13
  simp at x0 x1 x2 x3 x4 x5 x6 x7 x8 x9 x10 x11 x12 x13
  go_wp2_with fail
  rcases Nat.lt_or_ge n (ln + 74) with l4 | l4
  · have b4 : decide (ln + 74 ≤ n) = false := decide_eq_false (by omega)
    have hk := Lib.hid (show K = 4 by rw [← HK.out]; simp [bad, clR, hmq, b0, ne1, b1, ne2, b2, b3, b4])
    refine (int_short g A n cap bs (ln + 66) 8 _ HR.out.rdr (by omega) (by omega) (by omega) (by omega) (by omega)).mono ?_
    rintro e w20 ⟨rfl, hb⟩
    have HA := Lib.hid (HA.out.trans (Alone.of_below hb g))
    clear hb
    go_wp2
    simp [bodyPost]
    exact RwP.no (by rw [hk.out]; decide) (by rw [hk.out]) HA.out
  have b4 : decide (ln + 74 ≤ n) = true := decide_eq_true l4
  refine (int_get g A n cap bs (ln + 66) 8 at8 _ HR.out.rdr (by omega) hnc (by omega) hcc (by omega) (by omega) n13).mono ?_
  clear x0 x1 x2 x3 x4 x5 x6 x7 x8 x9 x10 x11 x12 x13 
  rintro e wx ⟨rfl, hM⟩
  have HA := Lib.hid (HA.out.trans hM.1)
  have HT := Lib.hid (hM.1.whole HT.out (by omega))
  have HR := Lib.hid (HR.out.moved hM)
  clear hM
  have x0 := HR.out.2.2.1.cell 0
  have x1 := HR.out.2.2.1.cell 1
  have x2 := HR.out.2.2.1.cell 2
  have x3 := HR.out.2.2.1.cell 3
  have x4 := HR.out.2.2.1.cell 4
  have x5 := HR.out.2.2.1.cell 5
  have x6 := HR.out.2.2.1.cell 6
  have x7 := HR.out.2.2.1.cell 7
  have x8 := HR.out.2.2.1.cell 8
  have x9 := HR.out.2.2.1.cell 9
  have x10 := HR.out.2.2.1.cell 10
  have x11 := HR.out.2.2.1.cell 11
  have x12 := HR.out.2.2.1.cell 12
  have x13 := HR.out.2.2.1.cell 13
  have y0 := HR.out.2.2.1.free 0
  have y1 := HR.out.2.2.1.free 1
  have y2 := HR.out.2.2.1.free 2
  have y3 := HR.out.2.2.1.free 3
  have y4 := HR.out.2.2.1.free 4
  have y5 := HR.out.2.2.1.free 5
  have y6 := HR.out.2.2.1.free 6
  have y7 := HR.out.2.2.1.free 7
  have y8 := HR.out.2.2.1.free 8
  have y9 := HR.out.2.2.1.free 9
  have y10 := HR.out.2.2.1.free 10
  have y11 := HR.out.2.2.1.free 11
  have y12 := HR.out.2.2.1.free 12
  have y13 := HR.out.2.2.1.free 13
  simp at x0 x1 x2 x3 x4 x5 x6 x7 x8 x9 x10 x11 x12 x13
  have hk := Lib.hid (show K = 0 by rw [← HK.out]; simp [bad, clR, hmq, b0, ne1, b1, ne2, b2, b3, b4])
  go_wp2
  clear x0 x1 x2 x3 x4 x5 x6 x7 x8 x9 x10 x11 x12 x13 y0 y1 y2 y3 y4 y5 y6 y7 y8 y9 y10 y11 y12 y13
  obtain ⟨w15, hws⟩ : ∃ x, (((wx.setCell ⟨T, 10, none⟩ (.int .i64 iz)).setCell ⟨T, 9, none⟩ (.int .i64 ip)).setCell ⟨T, 13, none⟩ (.int .i64 il)) = x := ⟨_, rfl⟩
  rw [hws]
  have HR : Hid (RS w15 g T A n cap bs (ln + 74) #[.string nm, .int .i64 ty, .int .i64 tmo, .int .i64 td, .int .i64 th, .int .i64 tmi, .int .i64 ts, .int .i64 (me : Nat), .int .u32 (c : Nat), .int .i64 ip, .int .i64 iz, .bool true, .bool lt, .int .i64 il]) := Lib.hid (hws ▸ (((HR.out.store 10 (.int .i64 iz) rfl).store 9 (.int .i64 ip) rfl).store 13 (.int .i64 il) rfl))
  have HA : Hid (Alone w w15 g) := Lib.hid (hws ▸ (alone_new (alone_new (alone_new HA.out (p := ⟨T, 10, none⟩) (by show w.heap.size ≤ T; omega) (.int .i64 iz)) (p := ⟨T, 9, none⟩) (by show w.heap.size ≤ T; omega) (.int .i64 ip)) (p := ⟨T, 13, none⟩) (by show w.heap.size ≤ T; omega) (.int .i64 il)))
  have HT : Hid (Whole w15 w.heap.size 28 #[.string ⟨#[]⟩, .int .i64 0, .int .i64 0, .int .i64 0, .int .i64 0, .int .i64 0, .int .i64 0, .int .i64 0, .int .u32 0, .int .i64 0, .int .i64 0, .bool false, .bool false, .int .i64 0]) := Lib.hid (hws ▸ (((HT.out.other (p := ⟨T, 10, none⟩) (by show w.heap.size ≠ T; omega) (.int .i64 iz)).other (p := ⟨T, 9, none⟩) (by show w.heap.size ≠ T; omega) (.int .i64 ip)).other (p := ⟨T, 13, none⟩) (by show w.heap.size ≠ T; omega) (.int .i64 il)))
  clear hws
  go_end0
  exact RwP.yes hk.out HA.out HR.out HT.out
end Go.Proofs.YtdmglpnieiiigaaDoor
