/- Parse of what is none. -/
import Derived.Test.YtafdflpjfdeohaaE3
namespace Go.Proofs.Ytafdflpjfdeohaa
open Go.RowKit

theorem parse_out_slim (A : Option Addr) (n cA : Nat) (z : Int) (w : World) (h : z < 0 ∨ (n : Int) < z) :
    Calls Try.prog 10 #[.slice A n cA, .int .i64 z, .bool false] w fun e w' => e = .returned (.tuple #[tl 0 0 0 false, .int .i64 0, .int .i64 2]) ∧ Below w.heap.size w w' := by
  have HB0 := Lib.hid (((Below.refl w.heap.size w).alloc (Nat.le_refl _) (.cells #[.bool false] 4)).alloc (by simp) (.cells #[.int .u32 0, .int .i64 0, .int .i64 0, .bool false] 24))
  by_cases h0 : z < 0
  case pos =>
    have d1 : decide (z < 0) = true := by simpa using h0
    clear h h0
    go_enter Try.func10, Try.ntmps10
    go_wp2
    simp [bodyPost, results, Try.results10, go_sem]
    exact HB0.out
  have d1 : decide (z < 0) = false := by simpa using h0
  have d2 : decide ((n : Int) < z) = true := by simp; omega
  clear h h0
  go_enter Try.func10, Try.ntmps10
  go_wp2
  simp [bodyPost, results, Try.results10, go_sem]
  exact HB0.out
theorem parse_out_wide (A : Option Addr) (n cA : Nat) (z : Int) (w : World) (h : z < 0 ∨ (n : Int) < z) :
    Calls Try.prog 10 #[.slice A n cA, .int .i64 z, .bool true] w fun e w' => e = .returned (.tuple #[tl 0 0 0 false, .int .i64 0, .int .i64 2]) ∧ Below w.heap.size w w' := by
  have HB0 := Lib.hid (((Below.refl w.heap.size w).alloc (Nat.le_refl _) (.cells #[.bool true] 4)).alloc (by simp) (.cells #[.int .u32 0, .int .i64 0, .int .i64 0, .bool false] 24))
  by_cases h0 : z < 0
  case pos =>
    have d1 : decide (z < 0) = true := by simpa using h0
    clear h h0
    go_enter Try.func10, Try.ntmps10
    go_wp2
    simp [bodyPost, results, Try.results10, go_sem]
    exact HB0.out
  have d1 : decide (z < 0) = false := by simpa using h0
  have d2 : decide ((n : Int) < z) = true := by simp; omega
  clear h h0
  go_enter Try.func10, Try.ntmps10
  go_wp2
  simp [bodyPost, results, Try.results10, go_sem]
  exact HB0.out
set_option maxHeartbeats 4000000 in
set_option maxRecDepth 100000 in
theorem parse_no_slim (A : Option Addr) (n cA at' m : Nat) (bs xs : List UInt8) (S : Nat → Prop) (K : Int) (w : World) (hB : Bs w S A n bs) (hat : at' < n) (hn : n ≤ 1000) (hnc : n ≤ cA) (hcc : cA ≤ 9223372036854775807) (hm : min (n - at') 16 = m) (hx : (bs.drop at').take 16 = xs) (hK : (K == 0) = false)
    (hrd : ∀ g A2 c2 w', Rdr w' g A2 m c2 xs 0 → m ≤ c2 → c2 ≤ 9223372036854775807 → Calls Try.prog 15 #[.pointer (some ⟨g, 0, none⟩), .bool false] w' fun e w'' => e = .panicked [{ v := fault K, recovered := false }] ∧ Alone w' w'' g) :
    Calls Try.prog 10 #[.slice A n cA, .int .i64 (at' : Nat), .bool false] w fun e w' => e = .returned (.tuple #[tl 0 0 0 false, .int .i64 0, .int .i64 K]) ∧ Below w.heap.size w w' := by
  obtain ⟨bk, off, rfl, -, -, -⟩ := hB.at_ (i := 0) (by omega)
  have hl := hB.len
  have hsl : Bs w S (some ⟨bk, off + at', none⟩) m xs := by
    have h := (hB.drop (k := at') (by omega)).take (k := m) (by omega)
    have e : (bs.drop at').take m = xs := by
      rw [← hx, ← hm]
      rcases Nat.le_total (n - at') 16 with h1 | h1
      · rw [Nat.min_eq_left h1, List.take_of_length_le (by rw [List.length_drop]; omega), List.take_of_length_le (by rw [List.length_drop]; omega)]
      · rw [Nat.min_eq_right h1]
    rw [e] at h
    exact h
  obtain ⟨M, hM⟩ : ∃ M, at' + m = M := ⟨_, rfl⟩
  have m1 : (if (at' : Int) + 16 < (n : Int) then (at' : Int) + 16 else (n : Int)) = (M : Int) := by split <;> omega
  have m2 : (if (n : Int) < (at' : Int) + 16 then (n : Int) else (at' : Int) + 16) = (M : Int) := by split <;> omega
  have hca : ¬ cA = at' := by omega
  have i1 : (M : Int) ≤ (cA : Int) := by omega
  have i0 : (at' : Int) ≤ (M : Int) := by omega
  have i3 : M - at' = m := by omega
  have d0 : decide (n < at') = false := by simp; omega
  have d0' : decide ((n : Int) < (at' : Int)) = false := by simp; omega
  have e1 : IntKind.i64.wrap ((at' : Int) + 16) = (at' : Int) + 16 := IntWalk.i64_in _ (by omega)
  have HB0 := Lib.hid (((Below.refl w.heap.size w).alloc (Nat.le_refl _) (.cells #[.bool false] 4)).alloc (by simp) (.cells #[.int .u32 0, .int .i64 0, .int .i64 0, .bool false] 24))
  have HP := Lib.hid ((Whole.new w 4 #[.bool false] rfl).alloc (.cells #[.int .u32 0, .int .i64 0, .int .i64 0, .bool false] 24))
  have HT := Lib.hid (Whole.new (w.alloc (.cells #[.bool false] 4)) 24 #[.int .u32 0, .int .i64 0, .int .i64 0, .bool false] (b := w.heap.size + 1) (by simp))
  have HS := Lib.hid (Bs.alloc (Bs.alloc hsl (.cells #[.bool false] 4)) (.cells #[.int .u32 0, .int .i64 0, .int .i64 0, .bool false] 24))
  have p0 := HP.out.cell 0
  have HRD := Lib.hid hrd
  simp at p0
  clear hrd
  clear hsl hB hM hm hx hl
  go_enter Try.func10, Try.ntmps10
  go_wp2_with fail
  refine (len_any 0 0 0 false _).mono ?_
  rintro e w1 ⟨rfl, hb1⟩
  rw [show ((8 + 2 * wid false : Nat) : Int) = 16 from rfl]
  have HB1 := Lib.hid (HB0.out.trans (hb1.mono HB0.out.size))
  have HP := Lib.hid (HP.out.below' hb1)
  have HT := Lib.hid (HT.out.below' hb1)
  have HS := Lib.hid (HS.out.below hb1)
  have HO := Lib.hid (over_any _ m (cA - at') xs S w1 HS.out (by omega))
  go_wp2_with fail
  clear hb1 p0
  refine HO.out.mono ?_
  rintro e w2 ⟨A2, c2, g, rfl, hg0, hR, hc1, hc2, hb2⟩
  have HB2 := Lib.hid (HB1.out.trans (hb2.mono HB1.out.size))
  have hs1 : w.heap.size + 2 ≤ w1.heap.size := by have := HT.out.lt; omega
  have HQ := Lib.hid (Whole.new w2 37 #[.pointer (some ⟨g, 0, none⟩)] rfl)
  have HP := Lib.hid ((HP.out.below' hb2).alloc (.cells #[.pointer (some ⟨g, 0, none⟩)] 37))
  have HT := Lib.hid ((HT.out.below' hb2).alloc (.cells #[.pointer (some ⟨g, 0, none⟩)] 37))
  have HR := Lib.hid (hR.below ((Below.refl w2.heap.size w2).alloc (Nat.le_refl _) (.cells #[.pointer (some ⟨g, 0, none⟩)] 37)))
  have HB3 := Lib.hid (HB2.out.alloc HB2.out.size (.cells #[.pointer (some ⟨g, 0, none⟩)] 37))
  have hgl := hR.1.lt
  have hz2 := hb2.size
  obtain ⟨q, hq⟩ : ∃ q, w2.heap.size = q := ⟨_, rfl⟩
  have hs3 : (w2.alloc (.cells #[.pointer (some ⟨g, 0, none⟩)] 37)).heap.size = q + 1 := by simp [hq]
  rw [hq] at HQ hgl hz2
  clear hb2 hR HO
  have hmf : ∀ (fn : Fn) (first cap : Array Value) (w : World), (Instr.makeFunc fn first cap).run Try.prog w = .ok (.func fn first cap) w := fun _ _ _ _ => rfl
  go_wp2_with fail
  obtain ⟨w3, hw3⟩ : ∃ w3, w2.alloc (.cells #[.pointer (some ⟨g, 0, none⟩)] 37) = w3 := ⟨_, rfl⟩
  rw [hw3] at HQ HP HT HR HB3 hs3 ⊢
  try rw [hq]
  clear hw3
  refine (tryT_throw 19 #[.pointer (some ⟨q, 0, none⟩), .pointer (some ⟨w.heap.size, 0, none⟩)] K w3 (fun a b => Alone a b g) (fun _ => by kernel_rfl) (fun a b hm => ⟨hm.size, fun k t cs hk hw => hm.whole hw (by omega)⟩)
    (fun w' hb => clo_throw g q w.heap.size false K w' (HQ.out.below' hb) (HP.out.below' hb) (by have := HR.out.1.lt; have := hb.size; omega) (fun w'' hb2 => HRD.out g A2 c2 w'' ((HR.out.below hb).below hb2) hc1 hc2))).mono ?_
  rintro e w5 ⟨rfl, u1, u2, hb4, hM, hb5⟩
  have HT := Lib.hid ((hM.whole (HT.out.below' hb4) (by omega)).below hb5 (by omega))
  have HB5 := Lib.hid ((hM.below (HB3.out.trans (hb4.mono HB3.out.size)) (by omega) (by have := HB3.out.size; have := hb4.size; omega)).trans (hb5.mono HB3.out.size))
  have hlT := HT.out.lt
  have hK2 : (K != 0) = true := by rw [bne, hK]; rfl
  clear hM hb4 hb5
  have r0 := HT.out.cell 0
  have r1 := HT.out.cell 1
  have r2 := HT.out.cell 2
  have r3 := HT.out.cell 3
  have z0 := HT.out.free 0
  have z1 := HT.out.free 1
  have z2 := HT.out.free 2
  have z3 := HT.out.free 3
  simp at r0 r1 r2 r3
  have HM := Lib.hid (((((HT.out.put 0 (.int .u32 0) rfl).put 1 (.int .i64 0) rfl).put 2 (.int .i64 0) rfl).put 3 (.bool false) rfl).alloc (.cells #[.int .u32 0, .int .i64 0, .int .i64 0, .bool false] 24))
  have h0 := HM.out.cell 0
  have h1 := HM.out.cell 1
  have h2 := HM.out.cell 2
  have h3 := HM.out.cell 3
  simp at h0 h1 h2 h3
  go_wp2
  simp [bodyPost, results, Try.results10, go_sem, h0, h1, h2, h3]
  exact (((((HB5.out.setCell (p := ⟨w.heap.size + 1, 0, none⟩) (by show w.heap.size ≤ w.heap.size + 1; omega) _).setCell (p := ⟨w.heap.size + 1, 1, none⟩) (by show w.heap.size ≤ w.heap.size + 1; omega) _).setCell (p := ⟨w.heap.size + 1, 2, none⟩) (by show w.heap.size ≤ w.heap.size + 1; omega) _).setCell (p := ⟨w.heap.size + 1, 3, none⟩) (by show w.heap.size ≤ w.heap.size + 1; omega) _).alloc (by simp; exact HB5.out.size) _)
set_option maxHeartbeats 4000000 in
set_option maxRecDepth 100000 in
theorem parse_no_wide (A : Option Addr) (n cA at' m : Nat) (bs xs : List UInt8) (S : Nat → Prop) (K : Int) (w : World) (hB : Bs w S A n bs) (hat : at' < n) (hn : n ≤ 1000) (hnc : n ≤ cA) (hcc : cA ≤ 9223372036854775807) (hm : min (n - at') 24 = m) (hx : (bs.drop at').take 24 = xs) (hK : (K == 0) = false)
    (hrd : ∀ g A2 c2 w', Rdr w' g A2 m c2 xs 0 → m ≤ c2 → c2 ≤ 9223372036854775807 → Calls Try.prog 15 #[.pointer (some ⟨g, 0, none⟩), .bool true] w' fun e w'' => e = .panicked [{ v := fault K, recovered := false }] ∧ Alone w' w'' g) :
    Calls Try.prog 10 #[.slice A n cA, .int .i64 (at' : Nat), .bool true] w fun e w' => e = .returned (.tuple #[tl 0 0 0 false, .int .i64 0, .int .i64 K]) ∧ Below w.heap.size w w' := by
  obtain ⟨bk, off, rfl, -, -, -⟩ := hB.at_ (i := 0) (by omega)
  have hl := hB.len
  have hsl : Bs w S (some ⟨bk, off + at', none⟩) m xs := by
    have h := (hB.drop (k := at') (by omega)).take (k := m) (by omega)
    have e : (bs.drop at').take m = xs := by
      rw [← hx, ← hm]
      rcases Nat.le_total (n - at') 24 with h1 | h1
      · rw [Nat.min_eq_left h1, List.take_of_length_le (by rw [List.length_drop]; omega), List.take_of_length_le (by rw [List.length_drop]; omega)]
      · rw [Nat.min_eq_right h1]
    rw [e] at h
    exact h
  obtain ⟨M, hM⟩ : ∃ M, at' + m = M := ⟨_, rfl⟩
  have m1 : (if (at' : Int) + 24 < (n : Int) then (at' : Int) + 24 else (n : Int)) = (M : Int) := by split <;> omega
  have m2 : (if (n : Int) < (at' : Int) + 24 then (n : Int) else (at' : Int) + 24) = (M : Int) := by split <;> omega
  have hca : ¬ cA = at' := by omega
  have i1 : (M : Int) ≤ (cA : Int) := by omega
  have i0 : (at' : Int) ≤ (M : Int) := by omega
  have i3 : M - at' = m := by omega
  have d0 : decide (n < at') = false := by simp; omega
  have d0' : decide ((n : Int) < (at' : Int)) = false := by simp; omega
  have e1 : IntKind.i64.wrap ((at' : Int) + 24) = (at' : Int) + 24 := IntWalk.i64_in _ (by omega)
  have HB0 := Lib.hid (((Below.refl w.heap.size w).alloc (Nat.le_refl _) (.cells #[.bool true] 4)).alloc (by simp) (.cells #[.int .u32 0, .int .i64 0, .int .i64 0, .bool false] 24))
  have HP := Lib.hid ((Whole.new w 4 #[.bool true] rfl).alloc (.cells #[.int .u32 0, .int .i64 0, .int .i64 0, .bool false] 24))
  have HT := Lib.hid (Whole.new (w.alloc (.cells #[.bool true] 4)) 24 #[.int .u32 0, .int .i64 0, .int .i64 0, .bool false] (b := w.heap.size + 1) (by simp))
  have HS := Lib.hid (Bs.alloc (Bs.alloc hsl (.cells #[.bool true] 4)) (.cells #[.int .u32 0, .int .i64 0, .int .i64 0, .bool false] 24))
  have p0 := HP.out.cell 0
  have HRD := Lib.hid hrd
  simp at p0
  clear hrd
  clear hsl hB hM hm hx hl
  go_enter Try.func10, Try.ntmps10
  go_wp2_with fail
  refine (len_any 0 0 0 true _).mono ?_
  rintro e w1 ⟨rfl, hb1⟩
  rw [show ((8 + 2 * wid true : Nat) : Int) = 24 from rfl]
  have HB1 := Lib.hid (HB0.out.trans (hb1.mono HB0.out.size))
  have HP := Lib.hid (HP.out.below' hb1)
  have HT := Lib.hid (HT.out.below' hb1)
  have HS := Lib.hid (HS.out.below hb1)
  have HO := Lib.hid (over_any _ m (cA - at') xs S w1 HS.out (by omega))
  go_wp2_with fail
  clear hb1 p0
  refine HO.out.mono ?_
  rintro e w2 ⟨A2, c2, g, rfl, hg0, hR, hc1, hc2, hb2⟩
  have HB2 := Lib.hid (HB1.out.trans (hb2.mono HB1.out.size))
  have hs1 : w.heap.size + 2 ≤ w1.heap.size := by have := HT.out.lt; omega
  have HQ := Lib.hid (Whole.new w2 37 #[.pointer (some ⟨g, 0, none⟩)] rfl)
  have HP := Lib.hid ((HP.out.below' hb2).alloc (.cells #[.pointer (some ⟨g, 0, none⟩)] 37))
  have HT := Lib.hid ((HT.out.below' hb2).alloc (.cells #[.pointer (some ⟨g, 0, none⟩)] 37))
  have HR := Lib.hid (hR.below ((Below.refl w2.heap.size w2).alloc (Nat.le_refl _) (.cells #[.pointer (some ⟨g, 0, none⟩)] 37)))
  have HB3 := Lib.hid (HB2.out.alloc HB2.out.size (.cells #[.pointer (some ⟨g, 0, none⟩)] 37))
  have hgl := hR.1.lt
  have hz2 := hb2.size
  obtain ⟨q, hq⟩ : ∃ q, w2.heap.size = q := ⟨_, rfl⟩
  have hs3 : (w2.alloc (.cells #[.pointer (some ⟨g, 0, none⟩)] 37)).heap.size = q + 1 := by simp [hq]
  rw [hq] at HQ hgl hz2
  clear hb2 hR HO
  have hmf : ∀ (fn : Fn) (first cap : Array Value) (w : World), (Instr.makeFunc fn first cap).run Try.prog w = .ok (.func fn first cap) w := fun _ _ _ _ => rfl
  go_wp2_with fail
  obtain ⟨w3, hw3⟩ : ∃ w3, w2.alloc (.cells #[.pointer (some ⟨g, 0, none⟩)] 37) = w3 := ⟨_, rfl⟩
  rw [hw3] at HQ HP HT HR HB3 hs3 ⊢
  try rw [hq]
  clear hw3
  refine (tryT_throw 19 #[.pointer (some ⟨q, 0, none⟩), .pointer (some ⟨w.heap.size, 0, none⟩)] K w3 (fun a b => Alone a b g) (fun _ => by kernel_rfl) (fun a b hm => ⟨hm.size, fun k t cs hk hw => hm.whole hw (by omega)⟩)
    (fun w' hb => clo_throw g q w.heap.size true K w' (HQ.out.below' hb) (HP.out.below' hb) (by have := HR.out.1.lt; have := hb.size; omega) (fun w'' hb2 => HRD.out g A2 c2 w'' ((HR.out.below hb).below hb2) hc1 hc2))).mono ?_
  rintro e w5 ⟨rfl, u1, u2, hb4, hM, hb5⟩
  have HT := Lib.hid ((hM.whole (HT.out.below' hb4) (by omega)).below hb5 (by omega))
  have HB5 := Lib.hid ((hM.below (HB3.out.trans (hb4.mono HB3.out.size)) (by omega) (by have := HB3.out.size; have := hb4.size; omega)).trans (hb5.mono HB3.out.size))
  have hlT := HT.out.lt
  have hK2 : (K != 0) = true := by rw [bne, hK]; rfl
  clear hM hb4 hb5
  have r0 := HT.out.cell 0
  have r1 := HT.out.cell 1
  have r2 := HT.out.cell 2
  have r3 := HT.out.cell 3
  have z0 := HT.out.free 0
  have z1 := HT.out.free 1
  have z2 := HT.out.free 2
  have z3 := HT.out.free 3
  simp at r0 r1 r2 r3
  have HM := Lib.hid (((((HT.out.put 0 (.int .u32 0) rfl).put 1 (.int .i64 0) rfl).put 2 (.int .i64 0) rfl).put 3 (.bool false) rfl).alloc (.cells #[.int .u32 0, .int .i64 0, .int .i64 0, .bool false] 24))
  have h0 := HM.out.cell 0
  have h1 := HM.out.cell 1
  have h2 := HM.out.cell 2
  have h3 := HM.out.cell 3
  simp at h0 h1 h2 h3
  go_wp2
  simp [bodyPost, results, Try.results10, go_sem, h0, h1, h2, h3]
  exact (((((HB5.out.setCell (p := ⟨w.heap.size + 1, 0, none⟩) (by show w.heap.size ≤ w.heap.size + 1; omega) _).setCell (p := ⟨w.heap.size + 1, 1, none⟩) (by show w.heap.size ≤ w.heap.size + 1; omega) _).setCell (p := ⟨w.heap.size + 1, 2, none⟩) (by show w.heap.size ≤ w.heap.size + 1; omega) _).setCell (p := ⟨w.heap.size + 1, 3, none⟩) (by show w.heap.size ≤ w.heap.size + 1; omega) _).alloc (by simp; exact HB5.out.size) _)
end Go.Proofs.Ytafdflpjfdeohaa
