/- Parse. -/
import Derived.Test.YtafdflpjfdeohaaD4
namespace Go.Proofs.Ytafdflpjfdeohaa
open Go.RowKit

theorem at_whole (g : Nat) (A : Option Addr) (n c p : Nat) (w : World) (h : Whole w g 53 #[.slice A n c, .int .i64 p]) : Calls Try.prog 20 #[.pointer (some ⟨g, 0, none⟩)] w fun e w' => e = .returned (.int .i64 p) ∧ w = w' := by
  have c1 := h.cell 1
  have f1 := h.free 1
  clear h
  go_enter Try.func20, Try.ntmps20
  go_wp2
  go_ret
  exact ⟨rfl, rfl⟩
set_option maxHeartbeats 1000000 in
theorem clo_ret (g q p : Nat) (A : Option Addr) (n cap o : Nat) (x y z : Int) (b : Bool) (w : World) (hq : Whole w q 37 #[.pointer (some ⟨g, 0, none⟩)]) (hp : Whole w p 4 #[.bool b]) (hgl : g < w.heap.size)
    (h : ∀ w', Below w.heap.size w w' → Calls Try.prog 15 #[.pointer (some ⟨g, 0, none⟩), .bool b] w' fun e w'' => e = .returned (tl x y z b) ∧ Moved w' g A n cap o w'') :
    Calls Try.prog 19 #[.pointer (some ⟨q, 0, none⟩), .pointer (some ⟨p, 0, none⟩)] w fun e w' => e = .returned (tl x y z b) ∧ Moved w g A n cap o w' := by
  have HA0 := Lib.hid ((Alone.refl w g).alloc (.cells #[.int .u32 0, .int .i64 0, .int .i64 0, .bool false] 24))
  have HT := Lib.hid (Whole.new w 24 #[.int .u32 0, .int .i64 0, .int .i64 0, .bool false] rfl)
  have H := Lib.hid (h _ ((Below.refl w.heap.size w).alloc (Nat.le_refl _) (.cells #[.int .u32 0, .int .i64 0, .int .i64 0, .bool false] 24)))
  have q0 := hq.cell 0
  have p0 := hp.cell 0
  have hlq := hq.lt
  have hlp := hp.lt
  simp at p0 q0
  clear h
  go_enter Try.func19, Try.ntmps19
  go_wp2_with fail
  refine H.out.mono ?_
  rintro e w1 ⟨rfl, hM⟩
  have HT := Lib.hid (hM.1.whole HT.out (by omega))
  have HA := Lib.hid (HA0.out.trans hM.1)
  have HG := Lib.hid hM.2
  have r0 := HT.out.cell 0
  have r1 := HT.out.cell 1
  have r2 := HT.out.cell 2
  have r3 := HT.out.cell 3
  have z0 := HT.out.free 0
  have z1 := HT.out.free 1
  have z2 := HT.out.free 2
  have z3 := HT.out.free 3
  simp at r0 r1 r2 r3
  have HM := Lib.hid (((((HT.out.put 0 (.int .u32 x) rfl).put 1 (.int .i64 y) rfl).put 2 (.int .i64 z) rfl).put 3 (.bool b) rfl))
  have h0 := HM.out.cell 0
  have h1 := HM.out.cell 1
  have h2 := HM.out.cell 2
  have h3 := HM.out.cell 3
  simp at h0 h1 h2 h3
  clear hM
  go_wp2
  simp [bodyPost, results, Try.results19, go_sem, h0, h1, h2, h3]
  have hgn : g ≠ w.heap.size := by omega
  exact ⟨alone_new (alone_new (alone_new (alone_new HA.out (p := ⟨w.heap.size, 0, none⟩) (Nat.le_refl _) _) (p := ⟨w.heap.size, 1, none⟩) (Nat.le_refl _) _) (p := ⟨w.heap.size, 2, none⟩) (Nat.le_refl _) _) (p := ⟨w.heap.size, 3, none⟩) (Nat.le_refl _) _,
    (((HG.out.other (p := ⟨w.heap.size, 0, none⟩) hgn _).other (p := ⟨w.heap.size, 1, none⟩) hgn _).other (p := ⟨w.heap.size, 2, none⟩) hgn _).other (p := ⟨w.heap.size, 3, none⟩) hgn _⟩
set_option maxHeartbeats 1000000 in
theorem clo_throw (g q p : Nat) (b : Bool) (k : Int) (w : World) (hq : Whole w q 37 #[.pointer (some ⟨g, 0, none⟩)]) (hp : Whole w p 4 #[.bool b]) (hgl : g < w.heap.size)
    (h : ∀ w', Below w.heap.size w w' → Calls Try.prog 15 #[.pointer (some ⟨g, 0, none⟩), .bool b] w' fun e w'' => e = .panicked [{ v := fault k, recovered := false }] ∧ Alone w' w'' g) :
    Calls Try.prog 19 #[.pointer (some ⟨q, 0, none⟩), .pointer (some ⟨p, 0, none⟩)] w fun e w' => e = .panicked [{ v := fault k, recovered := false }] ∧ Alone w w' g := by
  have HA0 := Lib.hid ((Alone.refl w g).alloc (.cells #[.int .u32 0, .int .i64 0, .int .i64 0, .bool false] 24))
  have HT := Lib.hid (Whole.new w 24 #[.int .u32 0, .int .i64 0, .int .i64 0, .bool false] rfl)
  have H := Lib.hid (h _ ((Below.refl w.heap.size w).alloc (Nat.le_refl _) (.cells #[.int .u32 0, .int .i64 0, .int .i64 0, .bool false] 24)))
  have q0 := hq.cell 0
  have p0 := hp.cell 0
  have hlq := hq.lt
  have hlp := hp.lt
  simp at p0 q0
  clear h
  go_enter Try.func19, Try.ntmps19
  go_wp2_with fail
  refine H.out.mono ?_
  rintro e w1 ⟨rfl, hM⟩
  have HM := Lib.hid (HA0.out.trans hM)
  clear hM
  go_wp2
  simp [bodyPost]
  exact HM.out
set_option maxHeartbeats 4000000 in
set_option maxRecDepth 100000 in
theorem parse_slim (A : Option Addr) (n cA at' : Nat) (bs : List UInt8) (S : Nat → Prop) (c p s : Nat) (w : World) (hB : Bs w S A n bs) (hat : at' + 16 ≤ n) (hnn : n ≤ 1000) (hnc : n ≤ cA) (hcc : cA ≤ 9223372036854775807) (hE : (bs.drop at').take 16 = encD c p s false) (hc : c < 4294967296) (hp : p ≤ 33554432) (hs : s ≤ 16777216) :
    Calls Try.prog 10 #[.slice A n cA, .int .i64 (at' : Nat), .bool false] w fun e w' => e = .returned (.tuple #[tl c p s false, .int .i64 ((at' + 16 : Nat) : Int), .int .i64 0]) ∧ Below w.heap.size w w' := by
  obtain ⟨bk, off, rfl, -, -, -⟩ := hB.at_ (i := 0) (by omega)
  have hsl : Bs w S (some ⟨bk, off + at', none⟩) 16 ((encD c p s false).take 16) := by
    have h := (hB.drop (k := at') (by omega)).take (k := 16) (by omega)
    rw [hE] at h
    rw [List.take_of_length_le (by rw [encD_cat, cat_len]; exact Nat.le_refl _)]
    exact h
  have d0 : decide (n < at') = false := by simp; omega
  have d0' : decide ((n : Int) < (at' : Int)) = false := by simp; omega
  have e1 : IntKind.i64.wrap ((at' : Int) + 16) = (at' : Int) + 16 := IntWalk.i64_in _ (by omega)
  have m1 : (if (at' : Int) + 16 < (n : Int) then (at' : Int) + 16 else (n : Int)) = (at' : Int) + 16 := by split <;> omega
  have e2 : IntKind.i64.wrap ((at' : Int) + (16 : Int)) = (at' : Int) + 16 := e1
  have hca : ¬ cA = at' := by omega
  have i1 : (at' : Int) + 16 ≤ (cA : Int) := by omega
  have i2 : ((at' : Int) + 16).toNat = at' + 16 := by omega
  have i3 : at' + 16 - at' = 16 := by omega
  have HB0 := Lib.hid (((Below.refl w.heap.size w).alloc (Nat.le_refl _) (.cells #[.bool false] 4)).alloc (by simp) (.cells #[.int .u32 0, .int .i64 0, .int .i64 0, .bool false] 24))
  have HP := Lib.hid ((Whole.new w 4 #[.bool false] rfl).alloc (.cells #[.int .u32 0, .int .i64 0, .int .i64 0, .bool false] 24))
  have HT := Lib.hid (Whole.new (w.alloc (.cells #[.bool false] 4)) 24 #[.int .u32 0, .int .i64 0, .int .i64 0, .bool false] (b := w.heap.size + 1) (by simp))
  have HS := Lib.hid (Bs.alloc (Bs.alloc hsl (.cells #[.bool false] 4)) (.cells #[.int .u32 0, .int .i64 0, .int .i64 0, .bool false] 24))
  have p0 := HP.out.cell 0
  simp at p0
  clear hsl
  go_enter Try.func10, Try.ntmps10
  go_wp2_with fail
  refine (len_any 0 0 0 false _).mono ?_
  rintro e w1 ⟨rfl, hb1⟩
  rw [show ((8 + 2 * wid false : Nat) : Int) = 16 from rfl]
  have HB1 := Lib.hid (HB0.out.trans (hb1.mono HB0.out.size))
  have HP := Lib.hid (HP.out.below' hb1)
  have HT := Lib.hid (HT.out.below' hb1)
  have HS := Lib.hid (HS.out.below hb1)
  clear hb1 p0
  have HO := Lib.hid (over_any _ 16 (cA - at') _ S w1 HS.out (by omega))
  go_wp2_with fail
  refine HO.out.mono ?_
  rintro e w2 ⟨A2, c2, g, rfl, hg0, hR, hc1, hc2, hb2⟩
  have HB2 := Lib.hid (HB1.out.trans (hb2.mono HB1.out.size))
  have hs1 : w.heap.size + 2 ≤ w1.heap.size := by have := HT.out.lt; omega
  have HQ := Lib.hid (Whole.new w2 37 #[.pointer (some ⟨g, 0, none⟩)] rfl)
  have HP := Lib.hid ((HP.out.below' hb2).alloc (.cells #[.pointer (some ⟨g, 0, none⟩)] 37))
  have HT := Lib.hid ((HT.out.below' hb2).alloc (.cells #[.pointer (some ⟨g, 0, none⟩)] 37))
  have HR := Lib.hid (hR.below ((Below.refl w2.heap.size w2).alloc (Nat.le_refl _) (.cells #[.pointer (some ⟨g, 0, none⟩)] 37)))
  have HB3 := Lib.hid (HB2.out.alloc HB2.out.size (.cells #[.pointer (some ⟨g, 0, none⟩)] 37))
  have hgl := hR.1.lt
  have hz2 := hb2.size
  obtain ⟨q, hq⟩ : ∃ q, w2.heap.size = q := ⟨_, rfl⟩
  have hs3 : (w2.alloc (.cells #[.pointer (some ⟨g, 0, none⟩)] 37)).heap.size = q + 1 := by simp [hq]
  rw [hq] at HQ hgl hz2
  clear hb2 hR HO
  have hmf : ∀ (fn : Fn) (first cap : Array Value) (w : World), (Instr.makeFunc fn first cap).run Try.prog w = .ok (.func fn first cap) w := fun _ _ _ _ => rfl
  go_wp2_with fail
  obtain ⟨w3, hw3⟩ : ∃ w3, w2.alloc (.cells #[.pointer (some ⟨g, 0, none⟩)] 37) = w3 := ⟨_, rfl⟩
  rw [hw3] at HQ HP HT HR HB3 hs3 ⊢
  try rw [hq]
  clear hw3
  refine (tryT_ret 19 #[.pointer (some ⟨q, 0, none⟩), .pointer (some ⟨w.heap.size, 0, none⟩)] c p s false w3 (fun a b => Moved a g A2 16 c2 16 b) (fun _ => by kernel_rfl) (fun a b hm => ⟨hm.1.size, fun k t cs hk hw => hm.1.whole hw (by omega)⟩)
    (fun w' hb => clo_ret g q w.heap.size A2 16 c2 16 c p s false w' (HQ.out.below' hb) (HP.out.below' hb) (by have := HR.out.1.lt; have := hb.size; omega) (fun w'' hb2 => read_slim g A2 16 c2 _ c p s w'' ((HR.out.below hb).below hb2) rfl rfl hc1 hc2 hc hp hs))).mono ?_
  rintro e w5 ⟨rfl, u1, u2, hb4, hM, hb5⟩
  have HT := Lib.hid ((hM.1.whole (HT.out.below' hb4) (by omega)).below hb5 (by omega))
  have HQ := Lib.hid ((hM.1.whole (HQ.out.below' hb4) (by omega)).below hb5 (by omega))
  have HG := Lib.hid (hM.2.below hb5 (by omega))
  have HB5 := Lib.hid ((hM.1.below (HB3.out.trans (hb4.mono HB3.out.size)) (by omega) (by have := HB3.out.size; have := hb4.size; omega)).trans (hb5.mono HB3.out.size))
  have hlT := HT.out.lt
  have hlQ := HQ.out.lt
  have q0 := HQ.out.cell 0
  simp at q0
  clear hM hb4 hb5
  have r0 := HT.out.cell 0
  have r1 := HT.out.cell 1
  have r2 := HT.out.cell 2
  have r3 := HT.out.cell 3
  have z0 := HT.out.free 0
  have z1 := HT.out.free 1
  have z2 := HT.out.free 2
  have z3 := HT.out.free 3
  simp at r0 r1 r2 r3
  have HAT := Lib.hid (fun w' (h : Whole w' g 53 #[.slice A2 16 c2, .int .i64 16]) => at_whole g A2 16 c2 16 w' h)
  have HM := Lib.hid (((((HT.out.put 0 (.int .u32 (c : Nat)) rfl).put 1 (.int .i64 (p : Nat)) rfl).put 2 (.int .i64 (s : Nat)) rfl).put 3 (.bool false) rfl).alloc (.cells #[.int .u32 (c : Nat), .int .i64 (p : Nat), .int .i64 (s : Nat), .bool false] 24))
  have h0 := HM.out.cell 0
  have h1 := HM.out.cell 1
  have h2 := HM.out.cell 2
  have h3 := HM.out.cell 3
  simp at h0 h1 h2 h3
  have HGA := Lib.hid (show Whole (w5.alloc (.cells #[.int .u32 (c : Nat), .int .i64 (p : Nat), .int .i64 (s : Nat), .bool false] 24)).drew g 53 #[.slice A2 16 c2, .int .i64 16] from HG.out.alloc (.cells #[.int .u32 (c : Nat), .int .i64 (p : Nat), .int .i64 (s : Nat), .bool false] 24))
  have e9 : IntKind.i64.wrap ((at' : Int) + 16) = (at' : Int) + 16 := IntWalk.i64_in _ (by omega)
  go_wp2
  go_region_law (first
    | (go_simp
       go_at_call 20
       refine (HAT.out _ HGA.out).mono ?_
       rintro e wy ⟨rfl, rfl⟩))
  all_goals
    go_wp2
    simp [bodyPost, results, Try.results10, go_sem, h0, h1, h2, h3]
    exact (((((HB5.out.setCell (p := ⟨w.heap.size + 1, 0, none⟩) (by show w.heap.size ≤ w.heap.size + 1; omega) _).setCell (p := ⟨w.heap.size + 1, 1, none⟩) (by show w.heap.size ≤ w.heap.size + 1; omega) _).setCell (p := ⟨w.heap.size + 1, 2, none⟩) (by show w.heap.size ≤ w.heap.size + 1; omega) _).setCell (p := ⟨w.heap.size + 1, 3, none⟩) (by show w.heap.size ≤ w.heap.size + 1; omega) _).alloc (by simp; exact HB5.out.size) _).drew
set_option maxHeartbeats 4000000 in
set_option maxRecDepth 100000 in
theorem parse_wide (A : Option Addr) (n cA at' : Nat) (bs : List UInt8) (S : Nat → Prop) (c p s : Nat) (w : World) (hB : Bs w S A n bs) (hat : at' + 24 ≤ n) (hnn : n ≤ 1000) (hnc : n ≤ cA) (hcc : cA ≤ 9223372036854775807) (hE : (bs.drop at').take 24 = encD c p s true) (hc : c < 4294967296) (hp : p ≤ 33554432) (hs : s ≤ 16777216) :
    Calls Try.prog 10 #[.slice A n cA, .int .i64 (at' : Nat), .bool true] w fun e w' => e = .returned (.tuple #[tl c p s true, .int .i64 ((at' + 24 : Nat) : Int), .int .i64 0]) ∧ Below w.heap.size w w' := by
  obtain ⟨bk, off, rfl, -, -, -⟩ := hB.at_ (i := 0) (by omega)
  have hsl : Bs w S (some ⟨bk, off + at', none⟩) 24 ((encD c p s true).take 24) := by
    have h := (hB.drop (k := at') (by omega)).take (k := 24) (by omega)
    rw [hE] at h
    rw [List.take_of_length_le (by rw [encD_cat, cat_len]; exact Nat.le_refl _)]
    exact h
  have d0 : decide (n < at') = false := by simp; omega
  have d0' : decide ((n : Int) < (at' : Int)) = false := by simp; omega
  have e1 : IntKind.i64.wrap ((at' : Int) + 24) = (at' : Int) + 24 := IntWalk.i64_in _ (by omega)
  have m1 : (if (at' : Int) + 24 < (n : Int) then (at' : Int) + 24 else (n : Int)) = (at' : Int) + 24 := by split <;> omega
  have e2 : IntKind.i64.wrap ((at' : Int) + (24 : Int)) = (at' : Int) + 24 := e1
  have hca : ¬ cA = at' := by omega
  have i1 : (at' : Int) + 24 ≤ (cA : Int) := by omega
  have i2 : ((at' : Int) + 24).toNat = at' + 24 := by omega
  have i3 : at' + 24 - at' = 24 := by omega
  have HB0 := Lib.hid (((Below.refl w.heap.size w).alloc (Nat.le_refl _) (.cells #[.bool true] 4)).alloc (by simp) (.cells #[.int .u32 0, .int .i64 0, .int .i64 0, .bool false] 24))
  have HP := Lib.hid ((Whole.new w 4 #[.bool true] rfl).alloc (.cells #[.int .u32 0, .int .i64 0, .int .i64 0, .bool false] 24))
  have HT := Lib.hid (Whole.new (w.alloc (.cells #[.bool true] 4)) 24 #[.int .u32 0, .int .i64 0, .int .i64 0, .bool false] (b := w.heap.size + 1) (by simp))
  have HS := Lib.hid (Bs.alloc (Bs.alloc hsl (.cells #[.bool true] 4)) (.cells #[.int .u32 0, .int .i64 0, .int .i64 0, .bool false] 24))
  have p0 := HP.out.cell 0
  simp at p0
  clear hsl
  go_enter Try.func10, Try.ntmps10
  go_wp2_with fail
  refine (len_any 0 0 0 true _).mono ?_
  rintro e w1 ⟨rfl, hb1⟩
  rw [show ((8 + 2 * wid true : Nat) : Int) = 24 from rfl]
  have HB1 := Lib.hid (HB0.out.trans (hb1.mono HB0.out.size))
  have HP := Lib.hid (HP.out.below' hb1)
  have HT := Lib.hid (HT.out.below' hb1)
  have HS := Lib.hid (HS.out.below hb1)
  clear hb1 p0
  have HO := Lib.hid (over_any _ 24 (cA - at') _ S w1 HS.out (by omega))
  go_wp2_with fail
  refine HO.out.mono ?_
  rintro e w2 ⟨A2, c2, g, rfl, hg0, hR, hc1, hc2, hb2⟩
  have HB2 := Lib.hid (HB1.out.trans (hb2.mono HB1.out.size))
  have hs1 : w.heap.size + 2 ≤ w1.heap.size := by have := HT.out.lt; omega
  have HQ := Lib.hid (Whole.new w2 37 #[.pointer (some ⟨g, 0, none⟩)] rfl)
  have HP := Lib.hid ((HP.out.below' hb2).alloc (.cells #[.pointer (some ⟨g, 0, none⟩)] 37))
  have HT := Lib.hid ((HT.out.below' hb2).alloc (.cells #[.pointer (some ⟨g, 0, none⟩)] 37))
  have HR := Lib.hid (hR.below ((Below.refl w2.heap.size w2).alloc (Nat.le_refl _) (.cells #[.pointer (some ⟨g, 0, none⟩)] 37)))
  have HB3 := Lib.hid (HB2.out.alloc HB2.out.size (.cells #[.pointer (some ⟨g, 0, none⟩)] 37))
  have hgl := hR.1.lt
  have hz2 := hb2.size
  obtain ⟨q, hq⟩ : ∃ q, w2.heap.size = q := ⟨_, rfl⟩
  have hs3 : (w2.alloc (.cells #[.pointer (some ⟨g, 0, none⟩)] 37)).heap.size = q + 1 := by simp [hq]
  rw [hq] at HQ hgl hz2
  clear hb2 hR HO
  have hmf : ∀ (fn : Fn) (first cap : Array Value) (w : World), (Instr.makeFunc fn first cap).run Try.prog w = .ok (.func fn first cap) w := fun _ _ _ _ => rfl
  go_wp2_with fail
  obtain ⟨w3, hw3⟩ : ∃ w3, w2.alloc (.cells #[.pointer (some ⟨g, 0, none⟩)] 37) = w3 := ⟨_, rfl⟩
  rw [hw3] at HQ HP HT HR HB3 hs3 ⊢
  try rw [hq]
  clear hw3
  refine (tryT_ret 19 #[.pointer (some ⟨q, 0, none⟩), .pointer (some ⟨w.heap.size, 0, none⟩)] c p s true w3 (fun a b => Moved a g A2 24 c2 24 b) (fun _ => by kernel_rfl) (fun a b hm => ⟨hm.1.size, fun k t cs hk hw => hm.1.whole hw (by omega)⟩)
    (fun w' hb => clo_ret g q w.heap.size A2 24 c2 24 c p s true w' (HQ.out.below' hb) (HP.out.below' hb) (by have := HR.out.1.lt; have := hb.size; omega) (fun w'' hb2 => read_wide g A2 24 c2 _ c p s w'' ((HR.out.below hb).below hb2) rfl rfl hc1 hc2 hc hp hs))).mono ?_
  rintro e w5 ⟨rfl, u1, u2, hb4, hM, hb5⟩
  have HT := Lib.hid ((hM.1.whole (HT.out.below' hb4) (by omega)).below hb5 (by omega))
  have HQ := Lib.hid ((hM.1.whole (HQ.out.below' hb4) (by omega)).below hb5 (by omega))
  have HG := Lib.hid (hM.2.below hb5 (by omega))
  have HB5 := Lib.hid ((hM.1.below (HB3.out.trans (hb4.mono HB3.out.size)) (by omega) (by have := HB3.out.size; have := hb4.size; omega)).trans (hb5.mono HB3.out.size))
  have hlT := HT.out.lt
  have hlQ := HQ.out.lt
  have q0 := HQ.out.cell 0
  simp at q0
  clear hM hb4 hb5
  have r0 := HT.out.cell 0
  have r1 := HT.out.cell 1
  have r2 := HT.out.cell 2
  have r3 := HT.out.cell 3
  have z0 := HT.out.free 0
  have z1 := HT.out.free 1
  have z2 := HT.out.free 2
  have z3 := HT.out.free 3
  simp at r0 r1 r2 r3
  have HAT := Lib.hid (fun w' (h : Whole w' g 53 #[.slice A2 24 c2, .int .i64 24]) => at_whole g A2 24 c2 24 w' h)
  have HM := Lib.hid (((((HT.out.put 0 (.int .u32 (c : Nat)) rfl).put 1 (.int .i64 (p : Nat)) rfl).put 2 (.int .i64 (s : Nat)) rfl).put 3 (.bool true) rfl).alloc (.cells #[.int .u32 (c : Nat), .int .i64 (p : Nat), .int .i64 (s : Nat), .bool true] 24))
  have h0 := HM.out.cell 0
  have h1 := HM.out.cell 1
  have h2 := HM.out.cell 2
  have h3 := HM.out.cell 3
  simp at h0 h1 h2 h3
  have HGA := Lib.hid (show Whole (w5.alloc (.cells #[.int .u32 (c : Nat), .int .i64 (p : Nat), .int .i64 (s : Nat), .bool true] 24)).drew g 53 #[.slice A2 24 c2, .int .i64 24] from HG.out.alloc (.cells #[.int .u32 (c : Nat), .int .i64 (p : Nat), .int .i64 (s : Nat), .bool true] 24))
  have e9 : IntKind.i64.wrap ((at' : Int) + 24) = (at' : Int) + 24 := IntWalk.i64_in _ (by omega)
  go_wp2
  go_region_law (first
    | (go_simp
       go_at_call 20
       refine (HAT.out _ HGA.out).mono ?_
       rintro e wy ⟨rfl, rfl⟩))
  all_goals
    go_wp2
    simp [bodyPost, results, Try.results10, go_sem, h0, h1, h2, h3]
    exact (((((HB5.out.setCell (p := ⟨w.heap.size + 1, 0, none⟩) (by show w.heap.size ≤ w.heap.size + 1; omega) _).setCell (p := ⟨w.heap.size + 1, 1, none⟩) (by show w.heap.size ≤ w.heap.size + 1; omega) _).setCell (p := ⟨w.heap.size + 1, 2, none⟩) (by show w.heap.size ≤ w.heap.size + 1; omega) _).setCell (p := ⟨w.heap.size + 1, 3, none⟩) (by show w.heap.size ≤ w.heap.size + 1; omega) _).alloc (by simp; exact HB5.out.size) _).drew
set_option maxHeartbeats 4000000 in
set_option maxRecDepth 100000 in
theorem parse_short_slim (A : Option Addr) (n cA : Nat) (bs : List UInt8) (S : Nat → Prop) (c p s : Nat) (w : World) (hB : Bs w S A n bs) (hnn : n = 15) (hnc : n ≤ cA) (hcc : cA ≤ 9223372036854775807) (hE : bs = (encD c p s false).take n) (hc : c < 4294967296) (hp : p ≤ 33554432) (hs : s ≤ 16777216) :
    Calls Try.prog 10 #[.slice A n cA, .int .i64 0, .bool false] w fun e w' => e = .returned (.tuple #[tl 0 0 0 false, .int .i64 0, .int .i64 4]) ∧ Below w.heap.size w w' := by
  obtain ⟨bk, off, rfl, -, -, -⟩ := hB.at_ (i := 0) (by omega)
  have hsl : Bs w S (some ⟨bk, off, none⟩) 15 ((encD c p s false).take 15) := by rw [← hnn, ← hE]; exact hB
  have HB0 := Lib.hid (((Below.refl w.heap.size w).alloc (Nat.le_refl _) (.cells #[.bool false] 4)).alloc (by simp) (.cells #[.int .u32 0, .int .i64 0, .int .i64 0, .bool false] 24))
  have HP := Lib.hid ((Whole.new w 4 #[.bool false] rfl).alloc (.cells #[.int .u32 0, .int .i64 0, .int .i64 0, .bool false] 24))
  have HT := Lib.hid (Whole.new (w.alloc (.cells #[.bool false] 4)) 24 #[.int .u32 0, .int .i64 0, .int .i64 0, .bool false] (b := w.heap.size + 1) (by simp))
  have HS := Lib.hid (Bs.alloc (Bs.alloc hsl (.cells #[.bool false] 4)) (.cells #[.int .u32 0, .int .i64 0, .int .i64 0, .bool false] 24))
  have p0 := HP.out.cell 0
  simp at p0
  clear hsl
  go_enter Try.func10, Try.ntmps10
  go_wp2_with fail
  refine (len_any 0 0 0 false _).mono ?_
  rintro e w1 ⟨rfl, hb1⟩
  rw [show ((8 + 2 * wid false : Nat) : Int) = 16 from rfl]
  have HB1 := Lib.hid (HB0.out.trans (hb1.mono HB0.out.size))
  have HP := Lib.hid (HP.out.below' hb1)
  have HT := Lib.hid (HT.out.below' hb1)
  have HS := Lib.hid (HS.out.below hb1)
  clear hb1 p0
  have HO := Lib.hid (over_any _ 15 cA _ S w1 HS.out (by omega))
  go_wp2_with fail
  refine HO.out.mono ?_
  rintro e w2 ⟨A2, c2, g, rfl, hg0, hR, hc1, hc2, hb2⟩
  have HB2 := Lib.hid (HB1.out.trans (hb2.mono HB1.out.size))
  have hs1 : w.heap.size + 2 ≤ w1.heap.size := by have := HT.out.lt; omega
  have HQ := Lib.hid (Whole.new w2 37 #[.pointer (some ⟨g, 0, none⟩)] rfl)
  have HP := Lib.hid ((HP.out.below' hb2).alloc (.cells #[.pointer (some ⟨g, 0, none⟩)] 37))
  have HT := Lib.hid ((HT.out.below' hb2).alloc (.cells #[.pointer (some ⟨g, 0, none⟩)] 37))
  have HR := Lib.hid (hR.below ((Below.refl w2.heap.size w2).alloc (Nat.le_refl _) (.cells #[.pointer (some ⟨g, 0, none⟩)] 37)))
  have HB3 := Lib.hid (HB2.out.alloc HB2.out.size (.cells #[.pointer (some ⟨g, 0, none⟩)] 37))
  have hgl := hR.1.lt
  have hz2 := hb2.size
  obtain ⟨q, hq⟩ : ∃ q, w2.heap.size = q := ⟨_, rfl⟩
  have hs3 : (w2.alloc (.cells #[.pointer (some ⟨g, 0, none⟩)] 37)).heap.size = q + 1 := by simp [hq]
  rw [hq] at HQ hgl hz2
  clear hb2 hR HO
  have hmf : ∀ (fn : Fn) (first cap : Array Value) (w : World), (Instr.makeFunc fn first cap).run Try.prog w = .ok (.func fn first cap) w := fun _ _ _ _ => rfl
  go_wp2_with fail
  obtain ⟨w3, hw3⟩ : ∃ w3, w2.alloc (.cells #[.pointer (some ⟨g, 0, none⟩)] 37) = w3 := ⟨_, rfl⟩
  rw [hw3] at HQ HP HT HR HB3 hs3 ⊢
  try rw [hq]
  clear hw3
  refine (tryT_throw 19 #[.pointer (some ⟨q, 0, none⟩), .pointer (some ⟨w.heap.size, 0, none⟩)] 4 w3 (fun a b => Alone a b g) (fun _ => by kernel_rfl) (fun a b hm => ⟨hm.size, fun k t cs hk hw => hm.whole hw (by omega)⟩)
    (fun w' hb => clo_throw g q w.heap.size false 4 w' (HQ.out.below' hb) (HP.out.below' hb) (by have := HR.out.1.lt; have := hb.size; omega) (fun w'' hb2 => read_slim_short g A2 15 c2 _ c p s w'' ((HR.out.below hb).below hb2) rfl rfl hc1 hc2 hc hp hs))).mono ?_
  rintro e w5 ⟨rfl, u1, u2, hb4, hM, hb5⟩
  have HT := Lib.hid ((hM.whole (HT.out.below' hb4) (by omega)).below hb5 (by omega))
  have HB5 := Lib.hid ((hM.below (HB3.out.trans (hb4.mono HB3.out.size)) (by omega) (by have := HB3.out.size; have := hb4.size; omega)).trans (hb5.mono HB3.out.size))
  have hlT := HT.out.lt
  clear hM hb4 hb5
  have r0 := HT.out.cell 0
  have r1 := HT.out.cell 1
  have r2 := HT.out.cell 2
  have r3 := HT.out.cell 3
  have z0 := HT.out.free 0
  have z1 := HT.out.free 1
  have z2 := HT.out.free 2
  have z3 := HT.out.free 3
  simp at r0 r1 r2 r3
  have HM := Lib.hid (((((HT.out.put 0 (.int .u32 0) rfl).put 1 (.int .i64 0) rfl).put 2 (.int .i64 0) rfl).put 3 (.bool false) rfl).alloc (.cells #[.int .u32 0, .int .i64 0, .int .i64 0, .bool false] 24))
  have h0 := HM.out.cell 0
  have h1 := HM.out.cell 1
  have h2 := HM.out.cell 2
  have h3 := HM.out.cell 3
  simp at h0 h1 h2 h3
  go_wp2
  simp [bodyPost, results, Try.results10, go_sem, h0, h1, h2, h3]
  exact (((((HB5.out.setCell (p := ⟨w.heap.size + 1, 0, none⟩) (by show w.heap.size ≤ w.heap.size + 1; omega) _).setCell (p := ⟨w.heap.size + 1, 1, none⟩) (by show w.heap.size ≤ w.heap.size + 1; omega) _).setCell (p := ⟨w.heap.size + 1, 2, none⟩) (by show w.heap.size ≤ w.heap.size + 1; omega) _).setCell (p := ⟨w.heap.size + 1, 3, none⟩) (by show w.heap.size ≤ w.heap.size + 1; omega) _).alloc (by simp; exact HB5.out.size) _)
set_option maxHeartbeats 4000000 in
set_option maxRecDepth 100000 in
theorem parse_short_wide (A : Option Addr) (n cA : Nat) (bs : List UInt8) (S : Nat → Prop) (c p s : Nat) (w : World) (hB : Bs w S A n bs) (hnn : n = 23) (hnc : n ≤ cA) (hcc : cA ≤ 9223372036854775807) (hE : bs = (encD c p s true).take n) (hc : c < 4294967296) (hp : p ≤ 33554432) (hs : s ≤ 16777216) :
    Calls Try.prog 10 #[.slice A n cA, .int .i64 0, .bool true] w fun e w' => e = .returned (.tuple #[tl 0 0 0 false, .int .i64 0, .int .i64 4]) ∧ Below w.heap.size w w' := by
  obtain ⟨bk, off, rfl, -, -, -⟩ := hB.at_ (i := 0) (by omega)
  have hsl : Bs w S (some ⟨bk, off, none⟩) 23 ((encD c p s true).take 23) := by rw [← hnn, ← hE]; exact hB
  have HB0 := Lib.hid (((Below.refl w.heap.size w).alloc (Nat.le_refl _) (.cells #[.bool true] 4)).alloc (by simp) (.cells #[.int .u32 0, .int .i64 0, .int .i64 0, .bool false] 24))
  have HP := Lib.hid ((Whole.new w 4 #[.bool true] rfl).alloc (.cells #[.int .u32 0, .int .i64 0, .int .i64 0, .bool false] 24))
  have HT := Lib.hid (Whole.new (w.alloc (.cells #[.bool true] 4)) 24 #[.int .u32 0, .int .i64 0, .int .i64 0, .bool false] (b := w.heap.size + 1) (by simp))
  have HS := Lib.hid (Bs.alloc (Bs.alloc hsl (.cells #[.bool true] 4)) (.cells #[.int .u32 0, .int .i64 0, .int .i64 0, .bool false] 24))
  have p0 := HP.out.cell 0
  simp at p0
  clear hsl
  go_enter Try.func10, Try.ntmps10
  go_wp2_with fail
  refine (len_any 0 0 0 true _).mono ?_
  rintro e w1 ⟨rfl, hb1⟩
  rw [show ((8 + 2 * wid true : Nat) : Int) = 24 from rfl]
  have HB1 := Lib.hid (HB0.out.trans (hb1.mono HB0.out.size))
  have HP := Lib.hid (HP.out.below' hb1)
  have HT := Lib.hid (HT.out.below' hb1)
  have HS := Lib.hid (HS.out.below hb1)
  clear hb1 p0
  have HO := Lib.hid (over_any _ 23 cA _ S w1 HS.out (by omega))
  go_wp2_with fail
  refine HO.out.mono ?_
  rintro e w2 ⟨A2, c2, g, rfl, hg0, hR, hc1, hc2, hb2⟩
  have HB2 := Lib.hid (HB1.out.trans (hb2.mono HB1.out.size))
  have hs1 : w.heap.size + 2 ≤ w1.heap.size := by have := HT.out.lt; omega
  have HQ := Lib.hid (Whole.new w2 37 #[.pointer (some ⟨g, 0, none⟩)] rfl)
  have HP := Lib.hid ((HP.out.below' hb2).alloc (.cells #[.pointer (some ⟨g, 0, none⟩)] 37))
  have HT := Lib.hid ((HT.out.below' hb2).alloc (.cells #[.pointer (some ⟨g, 0, none⟩)] 37))
  have HR := Lib.hid (hR.below ((Below.refl w2.heap.size w2).alloc (Nat.le_refl _) (.cells #[.pointer (some ⟨g, 0, none⟩)] 37)))
  have HB3 := Lib.hid (HB2.out.alloc HB2.out.size (.cells #[.pointer (some ⟨g, 0, none⟩)] 37))
  have hgl := hR.1.lt
  have hz2 := hb2.size
  obtain ⟨q, hq⟩ : ∃ q, w2.heap.size = q := ⟨_, rfl⟩
  have hs3 : (w2.alloc (.cells #[.pointer (some ⟨g, 0, none⟩)] 37)).heap.size = q + 1 := by simp [hq]
  rw [hq] at HQ hgl hz2
  clear hb2 hR HO
  have hmf : ∀ (fn : Fn) (first cap : Array Value) (w : World), (Instr.makeFunc fn first cap).run Try.prog w = .ok (.func fn first cap) w := fun _ _ _ _ => rfl
  go_wp2_with fail
  obtain ⟨w3, hw3⟩ : ∃ w3, w2.alloc (.cells #[.pointer (some ⟨g, 0, none⟩)] 37) = w3 := ⟨_, rfl⟩
  rw [hw3] at HQ HP HT HR HB3 hs3 ⊢
  try rw [hq]
  clear hw3
  refine (tryT_throw 19 #[.pointer (some ⟨q, 0, none⟩), .pointer (some ⟨w.heap.size, 0, none⟩)] 4 w3 (fun a b => Alone a b g) (fun _ => by kernel_rfl) (fun a b hm => ⟨hm.size, fun k t cs hk hw => hm.whole hw (by omega)⟩)
    (fun w' hb => clo_throw g q w.heap.size true 4 w' (HQ.out.below' hb) (HP.out.below' hb) (by have := HR.out.1.lt; have := hb.size; omega) (fun w'' hb2 => read_wide_short g A2 23 c2 _ c p s w'' ((HR.out.below hb).below hb2) rfl rfl hc1 hc2 hc hp hs))).mono ?_
  rintro e w5 ⟨rfl, u1, u2, hb4, hM, hb5⟩
  have HT := Lib.hid ((hM.whole (HT.out.below' hb4) (by omega)).below hb5 (by omega))
  have HB5 := Lib.hid ((hM.below (HB3.out.trans (hb4.mono HB3.out.size)) (by omega) (by have := HB3.out.size; have := hb4.size; omega)).trans (hb5.mono HB3.out.size))
  have hlT := HT.out.lt
  clear hM hb4 hb5
  have r0 := HT.out.cell 0
  have r1 := HT.out.cell 1
  have r2 := HT.out.cell 2
  have r3 := HT.out.cell 3
  have z0 := HT.out.free 0
  have z1 := HT.out.free 1
  have z2 := HT.out.free 2
  have z3 := HT.out.free 3
  simp at r0 r1 r2 r3
  have HM := Lib.hid (((((HT.out.put 0 (.int .u32 0) rfl).put 1 (.int .i64 0) rfl).put 2 (.int .i64 0) rfl).put 3 (.bool false) rfl).alloc (.cells #[.int .u32 0, .int .i64 0, .int .i64 0, .bool false] 24))
  have h0 := HM.out.cell 0
  have h1 := HM.out.cell 1
  have h2 := HM.out.cell 2
  have h3 := HM.out.cell 3
  simp at h0 h1 h2 h3
  go_wp2
  simp [bodyPost, results, Try.results10, go_sem, h0, h1, h2, h3]
  exact (((((HB5.out.setCell (p := ⟨w.heap.size + 1, 0, none⟩) (by show w.heap.size ≤ w.heap.size + 1; omega) _).setCell (p := ⟨w.heap.size + 1, 1, none⟩) (by show w.heap.size ≤ w.heap.size + 1; omega) _).setCell (p := ⟨w.heap.size + 1, 2, none⟩) (by show w.heap.size ≤ w.heap.size + 1; omega) _).setCell (p := ⟨w.heap.size + 1, 3, none⟩) (by show w.heap.size ≤ w.heap.size + 1; omega) _).alloc (by simp; exact HB5.out.size) _)
end Go.Proofs.Ytafdflpjfdeohaa
