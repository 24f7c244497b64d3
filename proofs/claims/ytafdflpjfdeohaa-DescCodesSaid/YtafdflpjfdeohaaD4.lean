/- The record, read. -/
import Derived.Test.YtafdflpjfdeohaaD3
namespace Go.Proofs.Ytafdflpjfdeohaa
open Go.RowKit

theorem alone_new {w w' : World} {g : Nat} (h : Alone w w' g) {p : Addr} (hp : w.heap.size ≤ p.block) (u : Value) : Alone w (w'.setCell p u) g :=
  ⟨h.1, h.2.1, h.2.2.1, by simpa using h.size, fun k hk hg => (Below.heap_setCell w' p u k (by omega)).trans (h.2.2.2.2 k hk hg)⟩
theorem take_drop_take (l : List UInt8) (n o k : Nat) (h : o + k ≤ n) : ((l.take n).drop o).take k = (l.drop o).take k := by
  rw [List.drop_take, List.take_take, Nat.min_eq_left (by omega)]
/-- A reader at block g, a tail at block T. -/
def RS (w : World) (g T : Nat) (A : Option Addr) (n c : Nat) (bs : List UInt8) (p : Nat) (t : Array Value) : Prop :=
  Whole w g 53 #[.slice A n c, .int .i64 p] ∧ Bs w (fun b => b ≠ g ∧ b ≠ T) A n bs ∧ Whole w T 24 t ∧ g ≠ T
section
variable {w w' : World} {g T n c p q : Nat} {A : Option Addr} {bs : List UInt8} {t : Array Value}
theorem RS.rdr (h : RS w g T A n c bs p t) : Rdr w g A n c bs p := ⟨h.1, h.2.1.mono fun b hb => hb.1⟩
theorem RS.moved (h : RS w g T A n c bs p t) (k : Moved w g A n c q w') : RS w' g T A n c bs q t := ⟨k.2, h.2.1.keep k.1.size fun b hb hS => k.1.2.2.2.2 b hb hS.1, k.1.whole h.2.2.1 (fun e => h.2.2.2 e.symm), h.2.2.2⟩
theorem RS.below (h : RS w g T A n c bs p t) (k : Below w.heap.size w w') : RS w' g T A n c bs p t := ⟨h.1.below' k, h.2.1.below k, h.2.2.1.below' k, h.2.2.2⟩
theorem RS.store (h : RS w g T A n c bs p t) (i : Nat) (u : Value) {t' : Array Value} (e : t.setIfInBounds i u = t') : RS (w.setCell ⟨T, i, none⟩ u) g T A n c bs p t' :=
  ⟨h.1.other (by show g ≠ T; exact h.2.2.2) _, h.2.1.put _ (fun b hb => hb.2), h.2.2.1.put i u e, h.2.2.2⟩
theorem Rdr.tail (h : Rdr w g A n c bs p) (t : Array Value) : RS (w.alloc (.cells t 24)) g w.heap.size A n c bs p t :=
  ⟨h.1.alloc _, (Bs.alloc h.2.and_lt _).mono (fun b hb => ⟨hb.1, by omega⟩), Whole.new w 24 t rfl, by have := h.1.lt; omega⟩
end
def Went (w : World) (g : Nat) (A : Option Addr) (n c q : Nat) (v : Value) (e : Ending) (w' : World) : Prop := e = .returned v ∧ Moved w g A n c q w'
theorem want_true (g : Nat) (A : Option Addr) (n c : Nat) (bs : List UInt8) (p k : Nat) (V : Nat) (E : Int) (w : World) (h : Rdr w g A n c bs p) (hp : p + k ≤ n) (hnc : n ≤ c) (hn : n ≤ 1000) (hc : c ≤ 9223372036854775807) (h1 : 1 ≤ k) (h8 : k ≤ 8) (hv : num ((bs.drop p).take k) = V) :
    Calls Try.prog 25 #[.pointer (some ⟨g, 0, none⟩), .int .i64 (k : Nat), .int .u64 (V : Nat), .int .i64 E] w (Went w g A n c (p + k) (.tuple #[])) := by
  have hi := int_ok g A n c bs p k w h hp hnc (by omega) hc h1 h8
  rw [hv] at hi
  refine (want_ok g A n c (p + k) V (V : Int) E k true w (by simp) hi).mono ?_
  rintro e w' ⟨rfl, hM⟩
  exact ⟨rfl, hM⟩
theorem want_false (g : Nat) (A : Option Addr) (n c : Nat) (bs : List UInt8) (p k : Nat) (V : Nat) (E : Int) (w : World) (h : Rdr w g A n c bs p) (hp : p + k ≤ n) (hnc : n ≤ c) (hn : n ≤ 1000) (hc : c ≤ 9223372036854775807) (h1 : 1 ≤ k) (h8 : k ≤ 8) (hv : num ((bs.drop p).take k) ≠ V) :
    Calls Try.prog 25 #[.pointer (some ⟨g, 0, none⟩), .int .i64 (k : Nat), .int .u64 (V : Nat), .int .i64 E] w (fun e w' => e = .panicked [{ v := fault E, recovered := false }] ∧ Moved w g A n c (p + k) w') := by
  have hi := int_ok g A n c bs p k w h hp hnc (by omega) hc h1 h8
  refine (want_ok g A n c (p + k) _ (V : Int) E k false w (by simp; omega) hi).mono ?_
  rintro e w' ⟨rfl, hM⟩
  exact ⟨rfl, hM⟩
theorem int_get (g : Nat) (A : Option Addr) (n c : Nat) (bs : List UInt8) (p k : Nat) (V : Nat) (w : World) (h : Rdr w g A n c bs p) (hp : p + k ≤ n) (hnc : n ≤ c) (hn : n ≤ 1000) (hc : c ≤ 9223372036854775807) (h1 : 1 ≤ k) (h8 : k ≤ 8) (hv : num ((bs.drop p).take k) = V) :
    Calls Try.prog 26 #[.pointer (some ⟨g, 0, none⟩), .int .i64 (k : Nat)] w (Went w g A n c (p + k) (.int .u64 (V : Nat))) := by
  have hi := int_ok g A n c bs p k w h hp hnc (by omega) hc h1 h8
  rw [hv] at hi
  exact hi
theorem must_ok (x y z : Int) (b : Bool) (w : World) : Calls Try.prog 27 #[tl x y z b, .int .i64 0] w fun e w' => e = .returned (tl x y z b) ∧ Below w.heap.size w w' := by
  go_enter Try.func27, Try.ntmps27
  go_wp2_with fail
  refine (check_true 0 _).mono ?_
  rintro e wx ⟨rfl, rfl⟩
  go_wp2
  simp [bodyPost, results, Try.results27, go_sem]
  exact ((Below.refl _ _).alloc (Nat.le_refl _) _).alloc (by simp) _
set_option maxHeartbeats 4000000 in
set_option maxRecDepth 100000 in
theorem read_slim (g : Nat) (A : Option Addr) (n cap : Nat) (bs : List UInt8) (c p s : Nat) (w : World) (hR : Rdr w g A n cap bs 0) (hbs : bs = (encD c p s false).take n) (hn : n = 16) (hnc : n ≤ cap) (hcc : cap ≤ 9223372036854775807) (hc : c < 4294967296) (hp : p ≤ 33554432) (hs : s ≤ 16777216) :
    Calls Try.prog 15 #[.pointer (some ⟨g, 0, none⟩), .bool false] w (fun e w' => e = .returned (tl c p s false) ∧ Moved w g A n cap 16 w') := by
  have n0 : num (((encD c p s false).drop 0).take 4) = 134695760 := by rw [encD_cat]; exact num_cat [] [(c, 4), (p, 4), (s, 4)] (134695760) 4 (by omega)
  have n1 : num (((encD c p s false).drop 4).take 4) = c := by rw [encD_cat]; exact num_cat [(134695760, 4)] [(p, 4), (s, 4)] (c) 4 (by omega)
  have n2 : num (((encD c p s false).drop 8).take 4) = p := by rw [encD_cat]; exact num_cat [(134695760, 4), (c, 4)] [(s, 4)] (p) 4 (by omega)
  have n3 : num (((encD c p s false).drop 12).take 4) = s := by rw [encD_cat]; exact num_cat [(134695760, 4), (c, 4), (p, 4)] [] (s) 4 (by omega)
  rw [← take_drop_take (encD c p s false) n 0 4 (by omega), ← hbs] at n0
  rw [← take_drop_take (encD c p s false) n 4 4 (by omega), ← hbs] at n1
  rw [← take_drop_take (encD c p s false) n 8 4 (by omega), ← hbs] at n2
  rw [← take_drop_take (encD c p s false) n 12 4 (by omega), ← hbs] at n3
  have WA : Hid (∀ w, Calls Try.prog 18 #[.bool false] w fun e w' => e = .returned (.int .i64 4) ∧ w = w') := Lib.hid (fun w => width_any false w)
  have kc : IntKind.u32.wrap (c : Int) = (c : Int) := IntWalk.u32_in _ (by omega)
  have kp : IntKind.i64.wrap (p : Int) = (p : Int) := IntWalk.i64_in _ (by omega)
  have ks : IntKind.i64.wrap (s : Int) = (s : Int) := IntWalk.i64_in _ (by omega)
  have CK := Lib.hid (fun w' => (check_any c p s false w').mono (R' := fun e w'' => e = .returned (.int .i64 0) ∧ Below w'.heap.size w' w'') (fun e w'' h => by rw [if_pos (by unfold okD; simp; omega)] at h; exact h))
  have hgl := hR.1.lt
  have HT := Lib.hid (Whole.new w 24 #[.int .u32 0, .int .i64 0, .int .i64 0, .bool false] rfl)
  have HA := Lib.hid ((Alone.refl w g).alloc (.cells #[.int .u32 0, .int .i64 0, .int .i64 0, .bool false] 24))
  have HR := Lib.hid (hR.below ((Below.refl w.heap.size w).alloc (Nat.le_refl _) (.cells #[.int .u32 0, .int .i64 0, .int .i64 0, .bool false] 24)))
  clear hR hbs
  go_enter Try.func15, Try.ntmps15
  go_wp2_with fail
  refine (want_true g A n cap bs 0 4 (134695760) 30 _ HR.out (by omega) hnc (by omega) hcc (by omega) (by omega) n0).mono ?_
  rintro e wx ⟨rfl, hM⟩
  have HA := Lib.hid (HA.out.trans hM.1)
  have HT := Lib.hid (hM.1.whole HT.out (by omega))
  have HR := Lib.hid (hM.rdr HR.out)
  clear hM
  go_wp2_with fail
  refine (int_get g A n cap bs 4 4 (c) _ HR.out (by omega) hnc (by omega) hcc (by omega) (by omega) n1).mono ?_
  rintro e wx ⟨rfl, hM⟩
  have HA := Lib.hid (HA.out.trans hM.1)
  have HT := Lib.hid (hM.1.whole HT.out (by omega))
  have HR := Lib.hid (hM.rdr HR.out)
  clear hM
  go_wp2_with fail
  obtain ⟨T, hT⟩ : ∃ T, wx.heap.size = T := ⟨_, rfl⟩
  have hwT : w.heap.size < T := by have := HT.out.lt; omega
  have HA := Lib.hid (HA.out.alloc (.cells #[.int .u32 (c : Nat), .int .i64 0, .int .i64 0, .bool false] 24))
  have HT := Lib.hid (HT.out.alloc (.cells #[.int .u32 (c : Nat), .int .i64 0, .int .i64 0, .bool false] 24))
  have HR := Lib.hid (HR.out.tail #[.int .u32 (c : Nat), .int .i64 0, .int .i64 0, .bool false])
  rw [hT] at HR ⊢
  generalize wx.alloc (.cells #[.int .u32 (c : Nat), .int .i64 0, .int .i64 0, .bool false] 24) = w9 at HR HT HA ⊢
  clear hT
  refine (WA.out _).mono ?_
  rintro e wy ⟨rfl, rfl⟩
  go_wp2_with fail
  refine (int_get g A n cap bs 8 4 (p) _ HR.out.rdr (by omega) hnc (by omega) hcc (by omega) (by omega) n2).mono ?_
  rintro e wx ⟨rfl, hM⟩
  have HA := Lib.hid (HA.out.trans hM.1)
  have HT := Lib.hid (hM.1.whole HT.out (by omega))
  have HR := Lib.hid (HR.out.moved hM)
  clear hM
  have x0 := HR.out.2.2.1.cell 0
  have x1 := HR.out.2.2.1.cell 1
  have x2 := HR.out.2.2.1.cell 2
  have x3 := HR.out.2.2.1.cell 3
  have y0 := HR.out.2.2.1.free 0
  have y1 := HR.out.2.2.1.free 1
  have y2 := HR.out.2.2.1.free 2
  simp at x0 x1 x2 x3
  go_wp2_with fail
  have HR := Lib.hid (HR.out.store 1 (.int .i64 (p : Nat)) rfl)
  have HA := Lib.hid (alone_new HA.out (p := ⟨T, 1, none⟩) (by show w.heap.size ≤ T; omega) (.int .i64 (p : Nat)))
  have HT := Lib.hid (HT.out.other (p := ⟨T, 1, none⟩) (by show w.heap.size ≠ T; omega) (.int .i64 (p : Nat)))
  refine (WA.out _).mono ?_
  rintro e wy ⟨rfl, rfl⟩
  go_wp2_with fail
  refine (int_get g A n cap bs 12 4 (s) _ HR.out.rdr (by omega) hnc (by omega) hcc (by omega) (by omega) n3).mono ?_
  rintro e wx ⟨rfl, hM⟩
  have HA := Lib.hid (HA.out.trans hM.1)
  have HT := Lib.hid (hM.1.whole HT.out (by omega))
  have HR := Lib.hid (HR.out.moved hM)
  clear hM
  have x0 := HR.out.2.2.1.cell 0
  have x1 := HR.out.2.2.1.cell 1
  have x2 := HR.out.2.2.1.cell 2
  have x3 := HR.out.2.2.1.cell 3
  have y0 := HR.out.2.2.1.free 0
  have y1 := HR.out.2.2.1.free 1
  have y2 := HR.out.2.2.1.free 2
  simp at x0 x1 x2 x3
  have HX := Lib.hid HR.out.2.2.1
  have x0 := HX.out.cell 0
  have x1 := HX.out.cell 1
  have x2 := HX.out.cell 2
  have x3 := HX.out.cell 3
  have r0 := HT.out.cell 0
  have r1 := HT.out.cell 1
  have r2 := HT.out.cell 2
  have r3 := HT.out.cell 3
  have z0 := HT.out.free 0
  have z1 := HT.out.free 1
  have z2 := HT.out.free 2
  have z3 := HT.out.free 3
  simp at x0 x1 x2 x3 r0 r1 r2 r3
  go_wp2
  have HR := Lib.hid (HR.out.store 2 (.int .i64 (s : Nat)) rfl)
  have HA := Lib.hid (alone_new HA.out (p := ⟨T, 2, none⟩) (by show w.heap.size ≤ T; omega) (.int .i64 (s : Nat)))
  have HT := Lib.hid (HT.out.other (p := ⟨T, 2, none⟩) (by show w.heap.size ≠ T; omega) (.int .i64 (s : Nat)))
  have hpl := HR.out.1.lt
  generalize wx.setCell ⟨T, 2, none⟩ (.int .i64 (s : Nat)) = w30 at HR HT HA ⊢
  have HX := Lib.hid (show Whole w30.drew T 24 #[.int .u32 (c : Nat), .int .i64 (p : Nat), .int .i64 (s : Nat), .bool false] from HR.out.2.2.1)
  have HG := Lib.hid (show Whole w30.drew g 53 _ from HR.out.1)
  have HT := Lib.hid (show Whole w30.drew w.heap.size 24 #[.int .u32 0, .int .i64 0, .int .i64 0, .bool false] from HT.out)
  have HA := Lib.hid (show Alone w w30.drew g from HA.out.drew)
  have x0 := HX.out.cell 0
  have x1 := HX.out.cell 1
  have x2 := HX.out.cell 2
  have x3 := HX.out.cell 3
  have r0 := HT.out.cell 0
  have r1 := HT.out.cell 1
  have r2 := HT.out.cell 2
  have r3 := HT.out.cell 3
  have z0 := HT.out.free 0
  have z1 := HT.out.free 1
  have z2 := HT.out.free 2
  have z3 := HT.out.free 3
  simp at x0 x1 x2 x3 r0 r1 r2 r3
  go_region_law (first
    | (go_simp
       go_at_call 8
       refine (CK.out _).mono ?_
       rintro e w20 ⟨rfl, hb20⟩
       have HX := Lib.hid (HX.out.below' hb20)
       have HG := Lib.hid (HG.out.below' hb20)
       have HT := Lib.hid (HT.out.below' hb20)
       have HA := Lib.hid (HA.out.trans (Alone.of_below hb20 g))
       have x0 := HX.out.cell 0
       have x1 := HX.out.cell 1
       have x2 := HX.out.cell 2
       have x3 := HX.out.cell 3
       have r0 := HT.out.cell 0
       have r1 := HT.out.cell 1
       have r2 := HT.out.cell 2
       have r3 := HT.out.cell 3
       have z0 := HT.out.free 0
       have z1 := HT.out.free 1
       have z2 := HT.out.free 2
       have z3 := HT.out.free 3
       simp at x0 x1 x2 x3 r0 r1 r2 r3
       clear hb20)
    | (go_simp
       go_at_call 27
       refine (must_ok _ _ _ _ _).mono ?_
       rintro e w20 ⟨rfl, hb20⟩
       have HX := Lib.hid (HX.out.below' hb20)
       have HG := Lib.hid (HG.out.below' hb20)
       have HT := Lib.hid (HT.out.below' hb20)
       have HA := Lib.hid (HA.out.trans (Alone.of_below hb20 g))
       have x0 := HX.out.cell 0
       have x1 := HX.out.cell 1
       have x2 := HX.out.cell 2
       have x3 := HX.out.cell 3
       have r0 := HT.out.cell 0
       have r1 := HT.out.cell 1
       have r2 := HT.out.cell 2
       have r3 := HT.out.cell 3
       have z0 := HT.out.free 0
       have z1 := HT.out.free 1
       have z2 := HT.out.free 2
       have z3 := HT.out.free 3
       simp at x0 x1 x2 x3 r0 r1 r2 r3
       clear hb20))
  all_goals
    have HM := Lib.hid (((((HT.out.put 0 (.int .u32 (c : Nat)) rfl).put 1 (.int .i64 (p : Nat)) rfl).put 2 (.int .i64 (s : Nat)) rfl).put 3 (.bool false) rfl))
    have h0 := HM.out.cell 0
    have h1 := HM.out.cell 1
    have h2 := HM.out.cell 2
    have h3 := HM.out.cell 3
    simp at h0 h1 h2 h3
    go_wp2
    simp [bodyPost, results, Try.results15, go_sem, h0, h1, h2, h3]
    have hgn : g ≠ w.heap.size := by omega
    exact ⟨alone_new (alone_new (alone_new (alone_new HA.out (p := ⟨w.heap.size, 0, none⟩) (Nat.le_refl _) _) (p := ⟨w.heap.size, 1, none⟩) (Nat.le_refl _) _) (p := ⟨w.heap.size, 2, none⟩) (Nat.le_refl _) _) (p := ⟨w.heap.size, 3, none⟩) (Nat.le_refl _) _,
      (((HG.out.other (p := ⟨w.heap.size, 0, none⟩) hgn _).other (p := ⟨w.heap.size, 1, none⟩) hgn _).other (p := ⟨w.heap.size, 2, none⟩) hgn _).other (p := ⟨w.heap.size, 3, none⟩) hgn _⟩
set_option maxHeartbeats 4000000 in
set_option maxRecDepth 100000 in
theorem read_wide (g : Nat) (A : Option Addr) (n cap : Nat) (bs : List UInt8) (c p s : Nat) (w : World) (hR : Rdr w g A n cap bs 0) (hbs : bs = (encD c p s true).take n) (hn : n = 24) (hnc : n ≤ cap) (hcc : cap ≤ 9223372036854775807) (hc : c < 4294967296) (hp : p ≤ 33554432) (hs : s ≤ 16777216) :
    Calls Try.prog 15 #[.pointer (some ⟨g, 0, none⟩), .bool true] w (fun e w' => e = .returned (tl c p s true) ∧ Moved w g A n cap 24 w') := by
  have n0 : num (((encD c p s true).drop 0).take 4) = 134695760 := by rw [encD_cat]; exact num_cat [] [(c, 4), (p, 8), (s, 8)] (134695760) 4 (by omega)
  have n1 : num (((encD c p s true).drop 4).take 4) = c := by rw [encD_cat]; exact num_cat [(134695760, 4)] [(p, 8), (s, 8)] (c) 4 (by omega)
  have n2 : num (((encD c p s true).drop 8).take 8) = p := by rw [encD_cat]; exact num_cat [(134695760, 4), (c, 4)] [(s, 8)] (p) 8 (by omega)
  have n3 : num (((encD c p s true).drop 16).take 8) = s := by rw [encD_cat]; exact num_cat [(134695760, 4), (c, 4), (p, 8)] [] (s) 8 (by omega)
  rw [← take_drop_take (encD c p s true) n 0 4 (by omega), ← hbs] at n0
  rw [← take_drop_take (encD c p s true) n 4 4 (by omega), ← hbs] at n1
  rw [← take_drop_take (encD c p s true) n 8 8 (by omega), ← hbs] at n2
  rw [← take_drop_take (encD c p s true) n 16 8 (by omega), ← hbs] at n3
  have WA : Hid (∀ w, Calls Try.prog 18 #[.bool true] w fun e w' => e = .returned (.int .i64 8) ∧ w = w') := Lib.hid (fun w => width_any true w)
  have kc : IntKind.u32.wrap (c : Int) = (c : Int) := IntWalk.u32_in _ (by omega)
  have kp : IntKind.i64.wrap (p : Int) = (p : Int) := IntWalk.i64_in _ (by omega)
  have ks : IntKind.i64.wrap (s : Int) = (s : Int) := IntWalk.i64_in _ (by omega)
  have CK := Lib.hid (fun w' => (check_any c p s true w').mono (R' := fun e w'' => e = .returned (.int .i64 0) ∧ Below w'.heap.size w' w'') (fun e w'' h => by rw [if_pos (by unfold okD; simp; omega)] at h; exact h))
  have hgl := hR.1.lt
  have HT := Lib.hid (Whole.new w 24 #[.int .u32 0, .int .i64 0, .int .i64 0, .bool false] rfl)
  have HA := Lib.hid ((Alone.refl w g).alloc (.cells #[.int .u32 0, .int .i64 0, .int .i64 0, .bool false] 24))
  have HR := Lib.hid (hR.below ((Below.refl w.heap.size w).alloc (Nat.le_refl _) (.cells #[.int .u32 0, .int .i64 0, .int .i64 0, .bool false] 24)))
  clear hR hbs
  go_enter Try.func15, Try.ntmps15
  go_wp2_with fail
  refine (want_true g A n cap bs 0 4 (134695760) 30 _ HR.out (by omega) hnc (by omega) hcc (by omega) (by omega) n0).mono ?_
  rintro e wx ⟨rfl, hM⟩
  have HA := Lib.hid (HA.out.trans hM.1)
  have HT := Lib.hid (hM.1.whole HT.out (by omega))
  have HR := Lib.hid (hM.rdr HR.out)
  clear hM
  go_wp2_with fail
  refine (int_get g A n cap bs 4 4 (c) _ HR.out (by omega) hnc (by omega) hcc (by omega) (by omega) n1).mono ?_
  rintro e wx ⟨rfl, hM⟩
  have HA := Lib.hid (HA.out.trans hM.1)
  have HT := Lib.hid (hM.1.whole HT.out (by omega))
  have HR := Lib.hid (hM.rdr HR.out)
  clear hM
  go_wp2_with fail
  obtain ⟨T, hT⟩ : ∃ T, wx.heap.size = T := ⟨_, rfl⟩
  have hwT : w.heap.size < T := by have := HT.out.lt; omega
  have HA := Lib.hid (HA.out.alloc (.cells #[.int .u32 (c : Nat), .int .i64 0, .int .i64 0, .bool true] 24))
  have HT := Lib.hid (HT.out.alloc (.cells #[.int .u32 (c : Nat), .int .i64 0, .int .i64 0, .bool true] 24))
  have HR := Lib.hid (HR.out.tail #[.int .u32 (c : Nat), .int .i64 0, .int .i64 0, .bool true])
  rw [hT] at HR ⊢
  generalize wx.alloc (.cells #[.int .u32 (c : Nat), .int .i64 0, .int .i64 0, .bool true] 24) = w9 at HR HT HA ⊢
  clear hT
  refine (WA.out _).mono ?_
  rintro e wy ⟨rfl, rfl⟩
  go_wp2_with fail
  refine (int_get g A n cap bs 8 8 (p) _ HR.out.rdr (by omega) hnc (by omega) hcc (by omega) (by omega) n2).mono ?_
  rintro e wx ⟨rfl, hM⟩
  have HA := Lib.hid (HA.out.trans hM.1)
  have HT := Lib.hid (hM.1.whole HT.out (by omega))
  have HR := Lib.hid (HR.out.moved hM)
  clear hM
  have x0 := HR.out.2.2.1.cell 0
  have x1 := HR.out.2.2.1.cell 1
  have x2 := HR.out.2.2.1.cell 2
  have x3 := HR.out.2.2.1.cell 3
  have y0 := HR.out.2.2.1.free 0
  have y1 := HR.out.2.2.1.free 1
  have y2 := HR.out.2.2.1.free 2
  simp at x0 x1 x2 x3
  go_wp2_with fail
  have HR := Lib.hid (HR.out.store 1 (.int .i64 (p : Nat)) rfl)
  have HA := Lib.hid (alone_new HA.out (p := ⟨T, 1, none⟩) (by show w.heap.size ≤ T; omega) (.int .i64 (p : Nat)))
  have HT := Lib.hid (HT.out.other (p := ⟨T, 1, none⟩) (by show w.heap.size ≠ T; omega) (.int .i64 (p : Nat)))
  refine (WA.out _).mono ?_
  rintro e wy ⟨rfl, rfl⟩
  go_wp2_with fail
  refine (int_get g A n cap bs 16 8 (s) _ HR.out.rdr (by omega) hnc (by omega) hcc (by omega) (by omega) n3).mono ?_
  rintro e wx ⟨rfl, hM⟩
  have HA := Lib.hid (HA.out.trans hM.1)
  have HT := Lib.hid (hM.1.whole HT.out (by omega))
  have HR := Lib.hid (HR.out.moved hM)
  clear hM
  have x0 := HR.out.2.2.1.cell 0
  have x1 := HR.out.2.2.1.cell 1
  have x2 := HR.out.2.2.1.cell 2
  have x3 := HR.out.2.2.1.cell 3
  have y0 := HR.out.2.2.1.free 0
  have y1 := HR.out.2.2.1.free 1
  have y2 := HR.out.2.2.1.free 2
  simp at x0 x1 x2 x3
  have HX := Lib.hid HR.out.2.2.1
  have x0 := HX.out.cell 0
  have x1 := HX.out.cell 1
  have x2 := HX.out.cell 2
  have x3 := HX.out.cell 3
  have r0 := HT.out.cell 0
  have r1 := HT.out.cell 1
  have r2 := HT.out.cell 2
  have r3 := HT.out.cell 3
  have z0 := HT.out.free 0
  have z1 := HT.out.free 1
  have z2 := HT.out.free 2
  have z3 := HT.out.free 3
  simp at x0 x1 x2 x3 r0 r1 r2 r3
  go_wp2
  have HR := Lib.hid (HR.out.store 2 (.int .i64 (s : Nat)) rfl)
  have HA := Lib.hid (alone_new HA.out (p := ⟨T, 2, none⟩) (by show w.heap.size ≤ T; omega) (.int .i64 (s : Nat)))
  have HT := Lib.hid (HT.out.other (p := ⟨T, 2, none⟩) (by show w.heap.size ≠ T; omega) (.int .i64 (s : Nat)))
  have hpl := HR.out.1.lt
  generalize wx.setCell ⟨T, 2, none⟩ (.int .i64 (s : Nat)) = w30 at HR HT HA ⊢
  have HX := Lib.hid (show Whole w30.drew T 24 #[.int .u32 (c : Nat), .int .i64 (p : Nat), .int .i64 (s : Nat), .bool true] from HR.out.2.2.1)
  have HG := Lib.hid (show Whole w30.drew g 53 _ from HR.out.1)
  have HT := Lib.hid (show Whole w30.drew w.heap.size 24 #[.int .u32 0, .int .i64 0, .int .i64 0, .bool false] from HT.out)
  have HA := Lib.hid (show Alone w w30.drew g from HA.out.drew)
  have x0 := HX.out.cell 0
  have x1 := HX.out.cell 1
  have x2 := HX.out.cell 2
  have x3 := HX.out.cell 3
  have r0 := HT.out.cell 0
  have r1 := HT.out.cell 1
  have r2 := HT.out.cell 2
  have r3 := HT.out.cell 3
  have z0 := HT.out.free 0
  have z1 := HT.out.free 1
  have z2 := HT.out.free 2
  have z3 := HT.out.free 3
  simp at x0 x1 x2 x3 r0 r1 r2 r3
  go_region_law (first
    | (go_simp
       go_at_call 8
       refine (CK.out _).mono ?_
       rintro e w20 ⟨rfl, hb20⟩
       have HX := Lib.hid (HX.out.below' hb20)
       have HG := Lib.hid (HG.out.below' hb20)
       have HT := Lib.hid (HT.out.below' hb20)
       have HA := Lib.hid (HA.out.trans (Alone.of_below hb20 g))
       have x0 := HX.out.cell 0
       have x1 := HX.out.cell 1
       have x2 := HX.out.cell 2
       have x3 := HX.out.cell 3
       have r0 := HT.out.cell 0
       have r1 := HT.out.cell 1
       have r2 := HT.out.cell 2
       have r3 := HT.out.cell 3
       have z0 := HT.out.free 0
       have z1 := HT.out.free 1
       have z2 := HT.out.free 2
       have z3 := HT.out.free 3
       simp at x0 x1 x2 x3 r0 r1 r2 r3
       clear hb20)
    | (go_simp
       go_at_call 27
       refine (must_ok _ _ _ _ _).mono ?_
       rintro e w20 ⟨rfl, hb20⟩
       have HX := Lib.hid (HX.out.below' hb20)
       have HG := Lib.hid (HG.out.below' hb20)
       have HT := Lib.hid (HT.out.below' hb20)
       have HA := Lib.hid (HA.out.trans (Alone.of_below hb20 g))
       have x0 := HX.out.cell 0
       have x1 := HX.out.cell 1
       have x2 := HX.out.cell 2
       have x3 := HX.out.cell 3
       have r0 := HT.out.cell 0
       have r1 := HT.out.cell 1
       have r2 := HT.out.cell 2
       have r3 := HT.out.cell 3
       have z0 := HT.out.free 0
       have z1 := HT.out.free 1
       have z2 := HT.out.free 2
       have z3 := HT.out.free 3
       simp at x0 x1 x2 x3 r0 r1 r2 r3
       clear hb20))
  all_goals
    have HM := Lib.hid (((((HT.out.put 0 (.int .u32 (c : Nat)) rfl).put 1 (.int .i64 (p : Nat)) rfl).put 2 (.int .i64 (s : Nat)) rfl).put 3 (.bool true) rfl))
    have h0 := HM.out.cell 0
    have h1 := HM.out.cell 1
    have h2 := HM.out.cell 2
    have h3 := HM.out.cell 3
    simp at h0 h1 h2 h3
    go_wp2
    simp [bodyPost, results, Try.results15, go_sem, h0, h1, h2, h3]
    have hgn : g ≠ w.heap.size := by omega
    exact ⟨alone_new (alone_new (alone_new (alone_new HA.out (p := ⟨w.heap.size, 0, none⟩) (Nat.le_refl _) _) (p := ⟨w.heap.size, 1, none⟩) (Nat.le_refl _) _) (p := ⟨w.heap.size, 2, none⟩) (Nat.le_refl _) _) (p := ⟨w.heap.size, 3, none⟩) (Nat.le_refl _) _,
      (((HG.out.other (p := ⟨w.heap.size, 0, none⟩) hgn _).other (p := ⟨w.heap.size, 1, none⟩) hgn _).other (p := ⟨w.heap.size, 2, none⟩) hgn _).other (p := ⟨w.heap.size, 3, none⟩) hgn _⟩
set_option maxHeartbeats 4000000 in
set_option maxRecDepth 100000 in
theorem read_slim_short (g : Nat) (A : Option Addr) (n cap : Nat) (bs : List UInt8) (c p s : Nat) (w : World) (hR : Rdr w g A n cap bs 0) (hbs : bs = (encD c p s false).take n) (hn : n = 15) (hnc : n ≤ cap) (hcc : cap ≤ 9223372036854775807) (hc : c < 4294967296) (hp : p ≤ 33554432) (hs : s ≤ 16777216) :
    Calls Try.prog 15 #[.pointer (some ⟨g, 0, none⟩), .bool false] w (fun e w' => e = .panicked [{ v := fault 4, recovered := false }] ∧ Alone w w' g) := by
  have n0 : num (((encD c p s false).drop 0).take 4) = 134695760 := by rw [encD_cat]; exact num_cat [] [(c, 4), (p, 4), (s, 4)] (134695760) 4 (by omega)
  have n1 : num (((encD c p s false).drop 4).take 4) = c := by rw [encD_cat]; exact num_cat [(134695760, 4)] [(p, 4), (s, 4)] (c) 4 (by omega)
  have n2 : num (((encD c p s false).drop 8).take 4) = p := by rw [encD_cat]; exact num_cat [(134695760, 4), (c, 4)] [(s, 4)] (p) 4 (by omega)
  have n3 : num (((encD c p s false).drop 12).take 4) = s := by rw [encD_cat]; exact num_cat [(134695760, 4), (c, 4), (p, 4)] [] (s) 4 (by omega)
  rw [← take_drop_take (encD c p s false) n 0 4 (by omega), ← hbs] at n0
  rw [← take_drop_take (encD c p s false) n 4 4 (by omega), ← hbs] at n1
  rw [← take_drop_take (encD c p s false) n 8 4 (by omega), ← hbs] at n2
  have WA : Hid (∀ w, Calls Try.prog 18 #[.bool false] w fun e w' => e = .returned (.int .i64 4) ∧ w = w') := Lib.hid (fun w => width_any false w)
  have kc : IntKind.u32.wrap (c : Int) = (c : Int) := IntWalk.u32_in _ (by omega)
  have kp : IntKind.i64.wrap (p : Int) = (p : Int) := IntWalk.i64_in _ (by omega)
  have ks : IntKind.i64.wrap (s : Int) = (s : Int) := IntWalk.i64_in _ (by omega)
  have CK := Lib.hid (fun w' => (check_any c p s false w').mono (R' := fun e w'' => e = .returned (.int .i64 0) ∧ Below w'.heap.size w' w'') (fun e w'' h => by rw [if_pos (by unfold okD; simp; omega)] at h; exact h))
  have hgl := hR.1.lt
  have HT := Lib.hid (Whole.new w 24 #[.int .u32 0, .int .i64 0, .int .i64 0, .bool false] rfl)
  have HA := Lib.hid ((Alone.refl w g).alloc (.cells #[.int .u32 0, .int .i64 0, .int .i64 0, .bool false] 24))
  have HR := Lib.hid (hR.below ((Below.refl w.heap.size w).alloc (Nat.le_refl _) (.cells #[.int .u32 0, .int .i64 0, .int .i64 0, .bool false] 24)))
  clear hR hbs
  go_enter Try.func15, Try.ntmps15
  go_wp2_with fail
  refine (want_true g A n cap bs 0 4 (134695760) 30 _ HR.out (by omega) hnc (by omega) hcc (by omega) (by omega) n0).mono ?_
  rintro e wx ⟨rfl, hM⟩
  have HA := Lib.hid (HA.out.trans hM.1)
  have HT := Lib.hid (hM.1.whole HT.out (by omega))
  have HR := Lib.hid (hM.rdr HR.out)
  clear hM
  go_wp2_with fail
  refine (int_get g A n cap bs 4 4 (c) _ HR.out (by omega) hnc (by omega) hcc (by omega) (by omega) n1).mono ?_
  rintro e wx ⟨rfl, hM⟩
  have HA := Lib.hid (HA.out.trans hM.1)
  have HT := Lib.hid (hM.1.whole HT.out (by omega))
  have HR := Lib.hid (hM.rdr HR.out)
  clear hM
  go_wp2_with fail
  obtain ⟨T, hT⟩ : ∃ T, wx.heap.size = T := ⟨_, rfl⟩
  have hwT : w.heap.size < T := by have := HT.out.lt; omega
  have HA := Lib.hid (HA.out.alloc (.cells #[.int .u32 (c : Nat), .int .i64 0, .int .i64 0, .bool false] 24))
  have HT := Lib.hid (HT.out.alloc (.cells #[.int .u32 (c : Nat), .int .i64 0, .int .i64 0, .bool false] 24))
  have HR := Lib.hid (HR.out.tail #[.int .u32 (c : Nat), .int .i64 0, .int .i64 0, .bool false])
  rw [hT] at HR ⊢
  generalize wx.alloc (.cells #[.int .u32 (c : Nat), .int .i64 0, .int .i64 0, .bool false] 24) = w9 at HR HT HA ⊢
  clear hT
  refine (WA.out _).mono ?_
  rintro e wy ⟨rfl, rfl⟩
  go_wp2_with fail
  refine (int_get g A n cap bs 8 4 (p) _ HR.out.rdr (by omega) hnc (by omega) hcc (by omega) (by omega) n2).mono ?_
  rintro e wx ⟨rfl, hM⟩
  have HA := Lib.hid (HA.out.trans hM.1)
  have HT := Lib.hid (hM.1.whole HT.out (by omega))
  have HR := Lib.hid (HR.out.moved hM)
  clear hM
  have x0 := HR.out.2.2.1.cell 0
  have x1 := HR.out.2.2.1.cell 1
  have x2 := HR.out.2.2.1.cell 2
  have x3 := HR.out.2.2.1.cell 3
  have y0 := HR.out.2.2.1.free 0
  have y1 := HR.out.2.2.1.free 1
  have y2 := HR.out.2.2.1.free 2
  simp at x0 x1 x2 x3
  go_wp2_with fail
  have HR := Lib.hid (HR.out.store 1 (.int .i64 (p : Nat)) rfl)
  have HA := Lib.hid (alone_new HA.out (p := ⟨T, 1, none⟩) (by show w.heap.size ≤ T; omega) (.int .i64 (p : Nat)))
  have HT := Lib.hid (HT.out.other (p := ⟨T, 1, none⟩) (by show w.heap.size ≠ T; omega) (.int .i64 (p : Nat)))
  refine (WA.out _).mono ?_
  rintro e wy ⟨rfl, rfl⟩
  go_wp2_with fail
  refine (int_short g A n cap bs 12 4 _ HR.out.rdr (by omega) (by omega) (by omega) (by omega) (by omega)).mono ?_
  rintro e wz ⟨rfl, hb⟩
  have HA := Lib.hid (HA.out.trans (Alone.of_below hb g))
  clear hb
  go_wp2
  simp [bodyPost]
  exact HA.out
set_option maxHeartbeats 4000000 in
set_option maxRecDepth 100000 in
theorem read_wide_short (g : Nat) (A : Option Addr) (n cap : Nat) (bs : List UInt8) (c p s : Nat) (w : World) (hR : Rdr w g A n cap bs 0) (hbs : bs = (encD c p s true).take n) (hn : n = 23) (hnc : n ≤ cap) (hcc : cap ≤ 9223372036854775807) (hc : c < 4294967296) (hp : p ≤ 33554432) (hs : s ≤ 16777216) :
    Calls Try.prog 15 #[.pointer (some ⟨g, 0, none⟩), .bool true] w (fun e w' => e = .panicked [{ v := fault 4, recovered := false }] ∧ Alone w w' g) := by
  have n0 : num (((encD c p s true).drop 0).take 4) = 134695760 := by rw [encD_cat]; exact num_cat [] [(c, 4), (p, 8), (s, 8)] (134695760) 4 (by omega)
  have n1 : num (((encD c p s true).drop 4).take 4) = c := by rw [encD_cat]; exact num_cat [(134695760, 4)] [(p, 8), (s, 8)] (c) 4 (by omega)
  have n2 : num (((encD c p s true).drop 8).take 8) = p := by rw [encD_cat]; exact num_cat [(134695760, 4), (c, 4)] [(s, 8)] (p) 8 (by omega)
  have n3 : num (((encD c p s true).drop 16).take 8) = s := by rw [encD_cat]; exact num_cat [(134695760, 4), (c, 4), (p, 8)] [] (s) 8 (by omega)
  rw [← take_drop_take (encD c p s true) n 0 4 (by omega), ← hbs] at n0
  rw [← take_drop_take (encD c p s true) n 4 4 (by omega), ← hbs] at n1
  rw [← take_drop_take (encD c p s true) n 8 8 (by omega), ← hbs] at n2
  have WA : Hid (∀ w, Calls Try.prog 18 #[.bool true] w fun e w' => e = .returned (.int .i64 8) ∧ w = w') := Lib.hid (fun w => width_any true w)
  have kc : IntKind.u32.wrap (c : Int) = (c : Int) := IntWalk.u32_in _ (by omega)
  have kp : IntKind.i64.wrap (p : Int) = (p : Int) := IntWalk.i64_in _ (by omega)
  have ks : IntKind.i64.wrap (s : Int) = (s : Int) := IntWalk.i64_in _ (by omega)
  have CK := Lib.hid (fun w' => (check_any c p s true w').mono (R' := fun e w'' => e = .returned (.int .i64 0) ∧ Below w'.heap.size w' w'') (fun e w'' h => by rw [if_pos (by unfold okD; simp; omega)] at h; exact h))
  have hgl := hR.1.lt
  have HT := Lib.hid (Whole.new w 24 #[.int .u32 0, .int .i64 0, .int .i64 0, .bool false] rfl)
  have HA := Lib.hid ((Alone.refl w g).alloc (.cells #[.int .u32 0, .int .i64 0, .int .i64 0, .bool false] 24))
  have HR := Lib.hid (hR.below ((Below.refl w.heap.size w).alloc (Nat.le_refl _) (.cells #[.int .u32 0, .int .i64 0, .int .i64 0, .bool false] 24)))
  clear hR hbs
  go_enter Try.func15, Try.ntmps15
  go_wp2_with fail
  refine (want_true g A n cap bs 0 4 (134695760) 30 _ HR.out (by omega) hnc (by omega) hcc (by omega) (by omega) n0).mono ?_
  rintro e wx ⟨rfl, hM⟩
  have HA := Lib.hid (HA.out.trans hM.1)
  have HT := Lib.hid (hM.1.whole HT.out (by omega))
  have HR := Lib.hid (hM.rdr HR.out)
  clear hM
  go_wp2_with fail
  refine (int_get g A n cap bs 4 4 (c) _ HR.out (by omega) hnc (by omega) hcc (by omega) (by omega) n1).mono ?_
  rintro e wx ⟨rfl, hM⟩
  have HA := Lib.hid (HA.out.trans hM.1)
  have HT := Lib.hid (hM.1.whole HT.out (by omega))
  have HR := Lib.hid (hM.rdr HR.out)
  clear hM
  go_wp2_with fail
  obtain ⟨T, hT⟩ : ∃ T, wx.heap.size = T := ⟨_, rfl⟩
  have hwT : w.heap.size < T := by have := HT.out.lt; omega
  have HA := Lib.hid (HA.out.alloc (.cells #[.int .u32 (c : Nat), .int .i64 0, .int .i64 0, .bool true] 24))
  have HT := Lib.hid (HT.out.alloc (.cells #[.int .u32 (c : Nat), .int .i64 0, .int .i64 0, .bool true] 24))
  have HR := Lib.hid (HR.out.tail #[.int .u32 (c : Nat), .int .i64 0, .int .i64 0, .bool true])
  rw [hT] at HR ⊢
  generalize wx.alloc (.cells #[.int .u32 (c : Nat), .int .i64 0, .int .i64 0, .bool true] 24) = w9 at HR HT HA ⊢
  clear hT
  refine (WA.out _).mono ?_
  rintro e wy ⟨rfl, rfl⟩
  go_wp2_with fail
  refine (int_get g A n cap bs 8 8 (p) _ HR.out.rdr (by omega) hnc (by omega) hcc (by omega) (by omega) n2).mono ?_
  rintro e wx ⟨rfl, hM⟩
  have HA := Lib.hid (HA.out.trans hM.1)
  have HT := Lib.hid (hM.1.whole HT.out (by omega))
  have HR := Lib.hid (HR.out.moved hM)
  clear hM
  have x0 := HR.out.2.2.1.cell 0
  have x1 := HR.out.2.2.1.cell 1
  have x2 := HR.out.2.2.1.cell 2
  have x3 := HR.out.2.2.1.cell 3
  have y0 := HR.out.2.2.1.free 0
  have y1 := HR.out.2.2.1.free 1
  have y2 := HR.out.2.2.1.free 2
  simp at x0 x1 x2 x3
  go_wp2_with fail
  have HR := Lib.hid (HR.out.store 1 (.int .i64 (p : Nat)) rfl)
  have HA := Lib.hid (alone_new HA.out (p := ⟨T, 1, none⟩) (by show w.heap.size ≤ T; omega) (.int .i64 (p : Nat)))
  have HT := Lib.hid (HT.out.other (p := ⟨T, 1, none⟩) (by show w.heap.size ≠ T; omega) (.int .i64 (p : Nat)))
  refine (WA.out _).mono ?_
  rintro e wy ⟨rfl, rfl⟩
  go_wp2_with fail
  refine (int_short g A n cap bs 16 8 _ HR.out.rdr (by omega) (by omega) (by omega) (by omega) (by omega)).mono ?_
  rintro e wz ⟨rfl, hb⟩
  have HA := Lib.hid (HA.out.trans (Alone.of_below hb g))
  clear hb
  go_wp2
  simp [bodyPost]
  exact HA.out
end Go.Proofs.Ytafdflpjfdeohaa
