/- Parse of no bytes. -/
import Derived.Test.YtafdflpjfdeohaaE4
namespace Go.Proofs.Ytafdflpjfdeohaa
open Go.RowKit

set_option maxHeartbeats 4000000 in
set_option maxRecDepth 100000 in
theorem parse_no_slim_end_ne (A : Option Addr) (n cA at' : Nat) (K : Int) (w : World) (hat : at' = n) (hn : n ≤ 1000) (hnc : n ≤ cA) (hcc : cA ≤ 9223372036854775807) (hca : ¬ cA = at') (hK : (K == 0) = false)
    (hrd : ∀ g A2 c2 w', Rdr w' g A2 0 c2 [] 0 → c2 ≤ 9223372036854775807 → Calls Try.prog 15 #[.pointer (some ⟨g, 0, none⟩), .bool false] w' fun e w'' => e = .panicked [{ v := fault K, recovered := false }] ∧ Alone w' w'' g) :
    Calls Try.prog 10 #[.slice A n cA, .int .i64 (at' : Nat), .bool false] w fun e w' => e = .returned (.tuple #[tl 0 0 0 false, .int .i64 0, .int .i64 K]) ∧ Below w.heap.size w w' := by
  subst hat
  have m1 : (if (at' : Int) < (at' : Int) + 16 then (at' : Int) else (at' : Int) + 16) = (at' : Int) := by split <;> omega
  have m2 : (if (at' : Int) + 16 < (at' : Int) then (at' : Int) + 16 else (at' : Int)) = (at' : Int) := by split <;> omega
  have m3 : min (at' : Int) ((at' : Int) + 16) = (at' : Int) := by omega
  have d0 : decide (at' < at') = false := by simp
  have d0' : decide ((at' : Int) < (at' : Int)) = false := by simp
  have e1 : IntKind.i64.wrap ((at' : Int) + 16) = (at' : Int) + 16 := IntWalk.i64_in _ (by omega)
  have HB0 := Lib.hid (((Below.refl w.heap.size w).alloc (Nat.le_refl _) (.cells #[.bool false] 4)).alloc (by simp) (.cells #[.int .u32 0, .int .i64 0, .int .i64 0, .bool false] 24))
  have HP := Lib.hid ((Whole.new w 4 #[.bool false] rfl).alloc (.cells #[.int .u32 0, .int .i64 0, .int .i64 0, .bool false] 24))
  have HT := Lib.hid (Whole.new (w.alloc (.cells #[.bool false] 4)) 24 #[.int .u32 0, .int .i64 0, .int .i64 0, .bool false] (b := w.heap.size + 1) (by simp))
  have p0 := HP.out.cell 0
  have HRD := Lib.hid hrd
  simp at p0
  clear hrd
  go_enter Try.func10, Try.ntmps10
  go_wp2_with fail
  refine (len_any 0 0 0 false _).mono ?_
  rintro e w1 ⟨rfl, hb1⟩
  rw [show ((8 + 2 * wid false : Nat) : Int) = 16 from rfl]
  have HB1 := Lib.hid (HB0.out.trans (hb1.mono HB0.out.size))
  have HP := Lib.hid (HP.out.below' hb1)
  have HT := Lib.hid (HT.out.below' hb1)
  go_wp2_with fail
  have HO := Lib.hid (over_any (Option.map (fun x => x.add at') A) 0 (cA - at') [] (fun _ => True) w1 (Bs.empty _ _ _) (by omega))
  clear hb1 p0
  refine HO.out.mono ?_
  rintro e w2 ⟨A2, c2, g, rfl, hg0, hR, hc1, hc2, hb2⟩
  have HB2 := Lib.hid (HB1.out.trans (hb2.mono HB1.out.size))
  have hs1 : w.heap.size + 2 ≤ w1.heap.size := by have := HT.out.lt; omega
  have HQ := Lib.hid (Whole.new w2 37 #[.pointer (some ⟨g, 0, none⟩)] rfl)
  have HP := Lib.hid ((HP.out.below' hb2).alloc (.cells #[.pointer (some ⟨g, 0, none⟩)] 37))
  have HT := Lib.hid ((HT.out.below' hb2).alloc (.cells #[.pointer (some ⟨g, 0, none⟩)] 37))
  have HR := Lib.hid (hR.below ((Below.refl w2.heap.size w2).alloc (Nat.le_refl _) (.cells #[.pointer (some ⟨g, 0, none⟩)] 37)))
  have HB3 := Lib.hid (HB2.out.alloc HB2.out.size (.cells #[.pointer (some ⟨g, 0, none⟩)] 37))
  have hgl := hR.1.lt
  have hz2 := hb2.size
  obtain ⟨q, hq⟩ : ∃ q, w2.heap.size = q := ⟨_, rfl⟩
  have hs3 : (w2.alloc (.cells #[.pointer (some ⟨g, 0, none⟩)] 37)).heap.size = q + 1 := by simp [hq]
  rw [hq] at HQ hgl hz2
  clear hb2 hR HO
  have hmf : ∀ (fn : Fn) (first cap : Array Value) (w : World), (Instr.makeFunc fn first cap).run Try.prog w = .ok (.func fn first cap) w := fun _ _ _ _ => rfl
  go_wp2_with fail
  obtain ⟨w3, hw3⟩ : ∃ w3, w2.alloc (.cells #[.pointer (some ⟨g, 0, none⟩)] 37) = w3 := ⟨_, rfl⟩
  rw [hw3] at HQ HP HT HR HB3 hs3 ⊢
  try rw [hq]
  clear hw3
  refine (tryT_throw 19 #[.pointer (some ⟨q, 0, none⟩), .pointer (some ⟨w.heap.size, 0, none⟩)] K w3 (fun a b => Alone a b g) (fun _ => by kernel_rfl) (fun a b hm => ⟨hm.size, fun k t cs hk hw => hm.whole hw (by omega)⟩)
    (fun w' hb => clo_throw g q w.heap.size false K w' (HQ.out.below' hb) (HP.out.below' hb) (by have := HR.out.1.lt; have := hb.size; omega) (fun w'' hb2 => HRD.out g A2 c2 w'' ((HR.out.below hb).below hb2) hc2))).mono ?_
  rintro e w5 ⟨rfl, u1, u2, hb4, hM, hb5⟩
  have HT := Lib.hid ((hM.whole (HT.out.below' hb4) (by omega)).below hb5 (by omega))
  have HB5 := Lib.hid ((hM.below (HB3.out.trans (hb4.mono HB3.out.size)) (by omega) (by have := HB3.out.size; have := hb4.size; omega)).trans (hb5.mono HB3.out.size))
  have hlT := HT.out.lt
  have hK2 : (K != 0) = true := by rw [bne, hK]; rfl
  clear hM hb4 hb5
  have r0 := HT.out.cell 0
  have r1 := HT.out.cell 1
  have r2 := HT.out.cell 2
  have r3 := HT.out.cell 3
  have z0 := HT.out.free 0
  have z1 := HT.out.free 1
  have z2 := HT.out.free 2
  have z3 := HT.out.free 3
  simp at r0 r1 r2 r3
  have HM := Lib.hid (((((HT.out.put 0 (.int .u32 0) rfl).put 1 (.int .i64 0) rfl).put 2 (.int .i64 0) rfl).put 3 (.bool false) rfl).alloc (.cells #[.int .u32 0, .int .i64 0, .int .i64 0, .bool false] 24))
  have h0 := HM.out.cell 0
  have h1 := HM.out.cell 1
  have h2 := HM.out.cell 2
  have h3 := HM.out.cell 3
  simp at h0 h1 h2 h3
  go_wp2
  simp [bodyPost, results, Try.results10, go_sem, h0, h1, h2, h3]
  exact (((((HB5.out.setCell (p := ⟨w.heap.size + 1, 0, none⟩) (by show w.heap.size ≤ w.heap.size + 1; omega) _).setCell (p := ⟨w.heap.size + 1, 1, none⟩) (by show w.heap.size ≤ w.heap.size + 1; omega) _).setCell (p := ⟨w.heap.size + 1, 2, none⟩) (by show w.heap.size ≤ w.heap.size + 1; omega) _).setCell (p := ⟨w.heap.size + 1, 3, none⟩) (by show w.heap.size ≤ w.heap.size + 1; omega) _).alloc (by simp; exact HB5.out.size) _)
set_option maxHeartbeats 4000000 in
set_option maxRecDepth 100000 in
theorem parse_no_slim_end_eq (A : Option Addr) (n cA at' : Nat) (K : Int) (w : World) (hat : at' = n) (hn : n ≤ 1000) (hnc : n ≤ cA) (hcc : cA ≤ 9223372036854775807) (hca : cA = at') (hK : (K == 0) = false)
    (hrd : ∀ g A2 c2 w', Rdr w' g A2 0 c2 [] 0 → c2 ≤ 9223372036854775807 → Calls Try.prog 15 #[.pointer (some ⟨g, 0, none⟩), .bool false] w' fun e w'' => e = .panicked [{ v := fault K, recovered := false }] ∧ Alone w' w'' g) :
    Calls Try.prog 10 #[.slice A n cA, .int .i64 (at' : Nat), .bool false] w fun e w' => e = .returned (.tuple #[tl 0 0 0 false, .int .i64 0, .int .i64 K]) ∧ Below w.heap.size w w' := by
  subst hat
  have m1 : (if (at' : Int) < (at' : Int) + 16 then (at' : Int) else (at' : Int) + 16) = (at' : Int) := by split <;> omega
  have m2 : (if (at' : Int) + 16 < (at' : Int) then (at' : Int) + 16 else (at' : Int)) = (at' : Int) := by split <;> omega
  have m3 : min (at' : Int) ((at' : Int) + 16) = (at' : Int) := by omega
  have d0 : decide (at' < at') = false := by simp
  have d0' : decide ((at' : Int) < (at' : Int)) = false := by simp
  have e1 : IntKind.i64.wrap ((at' : Int) + 16) = (at' : Int) + 16 := IntWalk.i64_in _ (by omega)
  have HB0 := Lib.hid (((Below.refl w.heap.size w).alloc (Nat.le_refl _) (.cells #[.bool false] 4)).alloc (by simp) (.cells #[.int .u32 0, .int .i64 0, .int .i64 0, .bool false] 24))
  have HP := Lib.hid ((Whole.new w 4 #[.bool false] rfl).alloc (.cells #[.int .u32 0, .int .i64 0, .int .i64 0, .bool false] 24))
  have HT := Lib.hid (Whole.new (w.alloc (.cells #[.bool false] 4)) 24 #[.int .u32 0, .int .i64 0, .int .i64 0, .bool false] (b := w.heap.size + 1) (by simp))
  have p0 := HP.out.cell 0
  have HRD := Lib.hid hrd
  simp at p0
  clear hrd
  go_enter Try.func10, Try.ntmps10
  go_wp2_with fail
  refine (len_any 0 0 0 false _).mono ?_
  rintro e w1 ⟨rfl, hb1⟩
  rw [show ((8 + 2 * wid false : Nat) : Int) = 16 from rfl]
  have HB1 := Lib.hid (HB0.out.trans (hb1.mono HB0.out.size))
  have HP := Lib.hid (HP.out.below' hb1)
  have HT := Lib.hid (HT.out.below' hb1)
  go_wp2_with fail
  have HO := Lib.hid (over_any A 0 0 [] (fun _ => True) w1 (Bs.empty _ _ _) (by omega))
  clear hb1 p0
  refine HO.out.mono ?_
  rintro e w2 ⟨A2, c2, g, rfl, hg0, hR, hc1, hc2, hb2⟩
  have HB2 := Lib.hid (HB1.out.trans (hb2.mono HB1.out.size))
  have hs1 : w.heap.size + 2 ≤ w1.heap.size := by have := HT.out.lt; omega
  have HQ := Lib.hid (Whole.new w2 37 #[.pointer (some ⟨g, 0, none⟩)] rfl)
  have HP := Lib.hid ((HP.out.below' hb2).alloc (.cells #[.pointer (some ⟨g, 0, none⟩)] 37))
  have HT := Lib.hid ((HT.out.below' hb2).alloc (.cells #[.pointer (some ⟨g, 0, none⟩)] 37))
  have HR := Lib.hid (hR.below ((Below.refl w2.heap.size w2).alloc (Nat.le_refl _) (.cells #[.pointer (some ⟨g, 0, none⟩)] 37)))
  have HB3 := Lib.hid (HB2.out.alloc HB2.out.size (.cells #[.pointer (some ⟨g, 0, none⟩)] 37))
  have hgl := hR.1.lt
  have hz2 := hb2.size
  obtain ⟨q, hq⟩ : ∃ q, w2.heap.size = q := ⟨_, rfl⟩
  have hs3 : (w2.alloc (.cells #[.pointer (some ⟨g, 0, none⟩)] 37)).heap.size = q + 1 := by simp [hq]
  rw [hq] at HQ hgl hz2
  clear hb2 hR HO
  have hmf : ∀ (fn : Fn) (first cap : Array Value) (w : World), (Instr.makeFunc fn first cap).run Try.prog w = .ok (.func fn first cap) w := fun _ _ _ _ => rfl
  go_wp2_with fail
  obtain ⟨w3, hw3⟩ : ∃ w3, w2.alloc (.cells #[.pointer (some ⟨g, 0, none⟩)] 37) = w3 := ⟨_, rfl⟩
  rw [hw3] at HQ HP HT HR HB3 hs3 ⊢
  try rw [hq]
  clear hw3
  refine (tryT_throw 19 #[.pointer (some ⟨q, 0, none⟩), .pointer (some ⟨w.heap.size, 0, none⟩)] K w3 (fun a b => Alone a b g) (fun _ => by kernel_rfl) (fun a b hm => ⟨hm.size, fun k t cs hk hw => hm.whole hw (by omega)⟩)
    (fun w' hb => clo_throw g q w.heap.size false K w' (HQ.out.below' hb) (HP.out.below' hb) (by have := HR.out.1.lt; have := hb.size; omega) (fun w'' hb2 => HRD.out g A2 c2 w'' ((HR.out.below hb).below hb2) hc2))).mono ?_
  rintro e w5 ⟨rfl, u1, u2, hb4, hM, hb5⟩
  have HT := Lib.hid ((hM.whole (HT.out.below' hb4) (by omega)).below hb5 (by omega))
  have HB5 := Lib.hid ((hM.below (HB3.out.trans (hb4.mono HB3.out.size)) (by omega) (by have := HB3.out.size; have := hb4.size; omega)).trans (hb5.mono HB3.out.size))
  have hlT := HT.out.lt
  have hK2 : (K != 0) = true := by rw [bne, hK]; rfl
  clear hM hb4 hb5
  have r0 := HT.out.cell 0
  have r1 := HT.out.cell 1
  have r2 := HT.out.cell 2
  have r3 := HT.out.cell 3
  have z0 := HT.out.free 0
  have z1 := HT.out.free 1
  have z2 := HT.out.free 2
  have z3 := HT.out.free 3
  simp at r0 r1 r2 r3
  have HM := Lib.hid (((((HT.out.put 0 (.int .u32 0) rfl).put 1 (.int .i64 0) rfl).put 2 (.int .i64 0) rfl).put 3 (.bool false) rfl).alloc (.cells #[.int .u32 0, .int .i64 0, .int .i64 0, .bool false] 24))
  have h0 := HM.out.cell 0
  have h1 := HM.out.cell 1
  have h2 := HM.out.cell 2
  have h3 := HM.out.cell 3
  simp at h0 h1 h2 h3
  go_wp2
  simp [bodyPost, results, Try.results10, go_sem, h0, h1, h2, h3]
  exact (((((HB5.out.setCell (p := ⟨w.heap.size + 1, 0, none⟩) (by show w.heap.size ≤ w.heap.size + 1; omega) _).setCell (p := ⟨w.heap.size + 1, 1, none⟩) (by show w.heap.size ≤ w.heap.size + 1; omega) _).setCell (p := ⟨w.heap.size + 1, 2, none⟩) (by show w.heap.size ≤ w.heap.size + 1; omega) _).setCell (p := ⟨w.heap.size + 1, 3, none⟩) (by show w.heap.size ≤ w.heap.size + 1; omega) _).alloc (by simp; exact HB5.out.size) _)
set_option maxHeartbeats 4000000 in
set_option maxRecDepth 100000 in
theorem parse_no_wide_end_ne (A : Option Addr) (n cA at' : Nat) (K : Int) (w : World) (hat : at' = n) (hn : n ≤ 1000) (hnc : n ≤ cA) (hcc : cA ≤ 9223372036854775807) (hca : ¬ cA = at') (hK : (K == 0) = false)
    (hrd : ∀ g A2 c2 w', Rdr w' g A2 0 c2 [] 0 → c2 ≤ 9223372036854775807 → Calls Try.prog 15 #[.pointer (some ⟨g, 0, none⟩), .bool true] w' fun e w'' => e = .panicked [{ v := fault K, recovered := false }] ∧ Alone w' w'' g) :
    Calls Try.prog 10 #[.slice A n cA, .int .i64 (at' : Nat), .bool true] w fun e w' => e = .returned (.tuple #[tl 0 0 0 false, .int .i64 0, .int .i64 K]) ∧ Below w.heap.size w w' := by
  subst hat
  have m1 : (if (at' : Int) < (at' : Int) + 24 then (at' : Int) else (at' : Int) + 24) = (at' : Int) := by split <;> omega
  have m2 : (if (at' : Int) + 24 < (at' : Int) then (at' : Int) + 24 else (at' : Int)) = (at' : Int) := by split <;> omega
  have m3 : min (at' : Int) ((at' : Int) + 24) = (at' : Int) := by omega
  have d0 : decide (at' < at') = false := by simp
  have d0' : decide ((at' : Int) < (at' : Int)) = false := by simp
  have e1 : IntKind.i64.wrap ((at' : Int) + 24) = (at' : Int) + 24 := IntWalk.i64_in _ (by omega)
  have HB0 := Lib.hid (((Below.refl w.heap.size w).alloc (Nat.le_refl _) (.cells #[.bool true] 4)).alloc (by simp) (.cells #[.int .u32 0, .int .i64 0, .int .i64 0, .bool false] 24))
  have HP := Lib.hid ((Whole.new w 4 #[.bool true] rfl).alloc (.cells #[.int .u32 0, .int .i64 0, .int .i64 0, .bool false] 24))
  have HT := Lib.hid (Whole.new (w.alloc (.cells #[.bool true] 4)) 24 #[.int .u32 0, .int .i64 0, .int .i64 0, .bool false] (b := w.heap.size + 1) (by simp))
  have p0 := HP.out.cell 0
  have HRD := Lib.hid hrd
  simp at p0
  clear hrd
  go_enter Try.func10, Try.ntmps10
  go_wp2_with fail
  refine (len_any 0 0 0 true _).mono ?_
  rintro e w1 ⟨rfl, hb1⟩
  rw [show ((8 + 2 * wid true : Nat) : Int) = 24 from rfl]
  have HB1 := Lib.hid (HB0.out.trans (hb1.mono HB0.out.size))
  have HP := Lib.hid (HP.out.below' hb1)
  have HT := Lib.hid (HT.out.below' hb1)
  go_wp2_with fail
  have HO := Lib.hid (over_any (Option.map (fun x => x.add at') A) 0 (cA - at') [] (fun _ => True) w1 (Bs.empty _ _ _) (by omega))
  clear hb1 p0
  refine HO.out.mono ?_
  rintro e w2 ⟨A2, c2, g, rfl, hg0, hR, hc1, hc2, hb2⟩
  have HB2 := Lib.hid (HB1.out.trans (hb2.mono HB1.out.size))
  have hs1 : w.heap.size + 2 ≤ w1.heap.size := by have := HT.out.lt; omega
  have HQ := Lib.hid (Whole.new w2 37 #[.pointer (some ⟨g, 0, none⟩)] rfl)
  have HP := Lib.hid ((HP.out.below' hb2).alloc (.cells #[.pointer (some ⟨g, 0, none⟩)] 37))
  have HT := Lib.hid ((HT.out.below' hb2).alloc (.cells #[.pointer (some ⟨g, 0, none⟩)] 37))
  have HR := Lib.hid (hR.below ((Below.refl w2.heap.size w2).alloc (Nat.le_refl _) (.cells #[.pointer (some ⟨g, 0, none⟩)] 37)))
  have HB3 := Lib.hid (HB2.out.alloc HB2.out.size (.cells #[.pointer (some ⟨g, 0, none⟩)] 37))
  have hgl := hR.1.lt
  have hz2 := hb2.size
  obtain ⟨q, hq⟩ : ∃ q, w2.heap.size = q := ⟨_, rfl⟩
  have hs3 : (w2.alloc (.cells #[.pointer (some ⟨g, 0, none⟩)] 37)).heap.size = q + 1 := by simp [hq]
  rw [hq] at HQ hgl hz2
  clear hb2 hR HO
  have hmf : ∀ (fn : Fn) (first cap : Array Value) (w : World), (Instr.makeFunc fn first cap).run Try.prog w = .ok (.func fn first cap) w := fun _ _ _ _ => rfl
  go_wp2_with fail
  obtain ⟨w3, hw3⟩ : ∃ w3, w2.alloc (.cells #[.pointer (some ⟨g, 0, none⟩)] 37) = w3 := ⟨_, rfl⟩
  rw [hw3] at HQ HP HT HR HB3 hs3 ⊢
  try rw [hq]
  clear hw3
  refine (tryT_throw 19 #[.pointer (some ⟨q, 0, none⟩), .pointer (some ⟨w.heap.size, 0, none⟩)] K w3 (fun a b => Alone a b g) (fun _ => by kernel_rfl) (fun a b hm => ⟨hm.size, fun k t cs hk hw => hm.whole hw (by omega)⟩)
    (fun w' hb => clo_throw g q w.heap.size true K w' (HQ.out.below' hb) (HP.out.below' hb) (by have := HR.out.1.lt; have := hb.size; omega) (fun w'' hb2 => HRD.out g A2 c2 w'' ((HR.out.below hb).below hb2) hc2))).mono ?_
  rintro e w5 ⟨rfl, u1, u2, hb4, hM, hb5⟩
  have HT := Lib.hid ((hM.whole (HT.out.below' hb4) (by omega)).below hb5 (by omega))
  have HB5 := Lib.hid ((hM.below (HB3.out.trans (hb4.mono HB3.out.size)) (by omega) (by have := HB3.out.size; have := hb4.size; omega)).trans (hb5.mono HB3.out.size))
  have hlT := HT.out.lt
  have hK2 : (K != 0) = true := by rw [bne, hK]; rfl
  clear hM hb4 hb5
  have r0 := HT.out.cell 0
  have r1 := HT.out.cell 1
  have r2 := HT.out.cell 2
  have r3 := HT.out.cell 3
  have z0 := HT.out.free 0
  have z1 := HT.out.free 1
  have z2 := HT.out.free 2
  have z3 := HT.out.free 3
  simp at r0 r1 r2 r3
  have HM := Lib.hid (((((HT.out.put 0 (.int .u32 0) rfl).put 1 (.int .i64 0) rfl).put 2 (.int .i64 0) rfl).put 3 (.bool false) rfl).alloc (.cells #[.int .u32 0, .int .i64 0, .int .i64 0, .bool false] 24))
  have h0 := HM.out.cell 0
  have h1 := HM.out.cell 1
  have h2 := HM.out.cell 2
  have h3 := HM.out.cell 3
  simp at h0 h1 h2 h3
  go_wp2
  simp [bodyPost, results, Try.results10, go_sem, h0, h1, h2, h3]
  exact (((((HB5.out.setCell (p := ⟨w.heap.size + 1, 0, none⟩) (by show w.heap.size ≤ w.heap.size + 1; omega) _).setCell (p := ⟨w.heap.size + 1, 1, none⟩) (by show w.heap.size ≤ w.heap.size + 1; omega) _).setCell (p := ⟨w.heap.size + 1, 2, none⟩) (by show w.heap.size ≤ w.heap.size + 1; omega) _).setCell (p := ⟨w.heap.size + 1, 3, none⟩) (by show w.heap.size ≤ w.heap.size + 1; omega) _).alloc (by simp; exact HB5.out.size) _)
set_option maxHeartbeats 4000000 in
set_option maxRecDepth 100000 in
theorem parse_no_wide_end_eq (A : Option Addr) (n cA at' : Nat) (K : Int) (w : World) (hat : at' = n) (hn : n ≤ 1000) (hnc : n ≤ cA) (hcc : cA ≤ 9223372036854775807) (hca : cA = at') (hK : (K == 0) = false)
    (hrd : ∀ g A2 c2 w', Rdr w' g A2 0 c2 [] 0 → c2 ≤ 9223372036854775807 → Calls Try.prog 15 #[.pointer (some ⟨g, 0, none⟩), .bool true] w' fun e w'' => e = .panicked [{ v := fault K, recovered := false }] ∧ Alone w' w'' g) :
    Calls Try.prog 10 #[.slice A n cA, .int .i64 (at' : Nat), .bool true] w fun e w' => e = .returned (.tuple #[tl 0 0 0 false, .int .i64 0, .int .i64 K]) ∧ Below w.heap.size w w' := by
  subst hat
  have m1 : (if (at' : Int) < (at' : Int) + 24 then (at' : Int) else (at' : Int) + 24) = (at' : Int) := by split <;> omega
  have m2 : (if (at' : Int) + 24 < (at' : Int) then (at' : Int) + 24 else (at' : Int)) = (at' : Int) := by split <;> omega
  have m3 : min (at' : Int) ((at' : Int) + 24) = (at' : Int) := by omega
  have d0 : decide (at' < at') = false := by simp
  have d0' : decide ((at' : Int) < (at' : Int)) = false := by simp
  have e1 : IntKind.i64.wrap ((at' : Int) + 24) = (at' : Int) + 24 := IntWalk.i64_in _ (by omega)
  have HB0 := Lib.hid (((Below.refl w.heap.size w).alloc (Nat.le_refl _) (.cells #[.bool true] 4)).alloc (by simp) (.cells #[.int .u32 0, .int .i64 0, .int .i64 0, .bool false] 24))
  have HP := Lib.hid ((Whole.new w 4 #[.bool true] rfl).alloc (.cells #[.int .u32 0, .int .i64 0, .int .i64 0, .bool false] 24))
  have HT := Lib.hid (Whole.new (w.alloc (.cells #[.bool true] 4)) 24 #[.int .u32 0, .int .i64 0, .int .i64 0, .bool false] (b := w.heap.size + 1) (by simp))
  have p0 := HP.out.cell 0
  have HRD := Lib.hid hrd
  simp at p0
  clear hrd
  go_enter Try.func10, Try.ntmps10
  go_wp2_with fail
  refine (len_any 0 0 0 true _).mono ?_
  rintro e w1 ⟨rfl, hb1⟩
  rw [show ((8 + 2 * wid true : Nat) : Int) = 24 from rfl]
  have HB1 := Lib.hid (HB0.out.trans (hb1.mono HB0.out.size))
  have HP := Lib.hid (HP.out.below' hb1)
  have HT := Lib.hid (HT.out.below' hb1)
  go_wp2_with fail
  have HO := Lib.hid (over_any A 0 0 [] (fun _ => True) w1 (Bs.empty _ _ _) (by omega))
  clear hb1 p0
  refine HO.out.mono ?_
  rintro e w2 ⟨A2, c2, g, rfl, hg0, hR, hc1, hc2, hb2⟩
  have HB2 := Lib.hid (HB1.out.trans (hb2.mono HB1.out.size))
  have hs1 : w.heap.size + 2 ≤ w1.heap.size := by have := HT.out.lt; omega
  have HQ := Lib.hid (Whole.new w2 37 #[.pointer (some ⟨g, 0, none⟩)] rfl)
  have HP := Lib.hid ((HP.out.below' hb2).alloc (.cells #[.pointer (some ⟨g, 0, none⟩)] 37))
  have HT := Lib.hid ((HT.out.below' hb2).alloc (.cells #[.pointer (some ⟨g, 0, none⟩)] 37))
  have HR := Lib.hid (hR.below ((Below.refl w2.heap.size w2).alloc (Nat.le_refl _) (.cells #[.pointer (some ⟨g, 0, none⟩)] 37)))
  have HB3 := Lib.hid (HB2.out.alloc HB2.out.size (.cells #[.pointer (some ⟨g, 0, none⟩)] 37))
  have hgl := hR.1.lt
  have hz2 := hb2.size
  obtain ⟨q, hq⟩ : ∃ q, w2.heap.size = q := ⟨_, rfl⟩
  have hs3 : (w2.alloc (.cells #[.pointer (some ⟨g, 0, none⟩)] 37)).heap.size = q + 1 := by simp [hq]
  rw [hq] at HQ hgl hz2
  clear hb2 hR HO
  have hmf : ∀ (fn : Fn) (first cap : Array Value) (w : World), (Instr.makeFunc fn first cap).run Try.prog w = .ok (.func fn first cap) w := fun _ _ _ _ => rfl
  go_wp2_with fail
  obtain ⟨w3, hw3⟩ : ∃ w3, w2.alloc (.cells #[.pointer (some ⟨g, 0, none⟩)] 37) = w3 := ⟨_, rfl⟩
  rw [hw3] at HQ HP HT HR HB3 hs3 ⊢
  try rw [hq]
  clear hw3
  refine (tryT_throw 19 #[.pointer (some ⟨q, 0, none⟩), .pointer (some ⟨w.heap.size, 0, none⟩)] K w3 (fun a b => Alone a b g) (fun _ => by kernel_rfl) (fun a b hm => ⟨hm.size, fun k t cs hk hw => hm.whole hw (by omega)⟩)
    (fun w' hb => clo_throw g q w.heap.size true K w' (HQ.out.below' hb) (HP.out.below' hb) (by have := HR.out.1.lt; have := hb.size; omega) (fun w'' hb2 => HRD.out g A2 c2 w'' ((HR.out.below hb).below hb2) hc2))).mono ?_
  rintro e w5 ⟨rfl, u1, u2, hb4, hM, hb5⟩
  have HT := Lib.hid ((hM.whole (HT.out.below' hb4) (by omega)).below hb5 (by omega))
  have HB5 := Lib.hid ((hM.below (HB3.out.trans (hb4.mono HB3.out.size)) (by omega) (by have := HB3.out.size; have := hb4.size; omega)).trans (hb5.mono HB3.out.size))
  have hlT := HT.out.lt
  have hK2 : (K != 0) = true := by rw [bne, hK]; rfl
  clear hM hb4 hb5
  have r0 := HT.out.cell 0
  have r1 := HT.out.cell 1
  have r2 := HT.out.cell 2
  have r3 := HT.out.cell 3
  have z0 := HT.out.free 0
  have z1 := HT.out.free 1
  have z2 := HT.out.free 2
  have z3 := HT.out.free 3
  simp at r0 r1 r2 r3
  have HM := Lib.hid (((((HT.out.put 0 (.int .u32 0) rfl).put 1 (.int .i64 0) rfl).put 2 (.int .i64 0) rfl).put 3 (.bool false) rfl).alloc (.cells #[.int .u32 0, .int .i64 0, .int .i64 0, .bool false] 24))
  have h0 := HM.out.cell 0
  have h1 := HM.out.cell 1
  have h2 := HM.out.cell 2
  have h3 := HM.out.cell 3
  simp at h0 h1 h2 h3
  go_wp2
  simp [bodyPost, results, Try.results10, go_sem, h0, h1, h2, h3]
  exact (((((HB5.out.setCell (p := ⟨w.heap.size + 1, 0, none⟩) (by show w.heap.size ≤ w.heap.size + 1; omega) _).setCell (p := ⟨w.heap.size + 1, 1, none⟩) (by show w.heap.size ≤ w.heap.size + 1; omega) _).setCell (p := ⟨w.heap.size + 1, 2, none⟩) (by show w.heap.size ≤ w.heap.size + 1; omega) _).setCell (p := ⟨w.heap.size + 1, 3, none⟩) (by show w.heap.size ≤ w.heap.size + 1; omega) _).alloc (by simp; exact HB5.out.size) _)
end Go.Proofs.Ytafdflpjfdeohaa
