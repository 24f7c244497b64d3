/- Parse. -/
import Derived.Test.YtgjkkapopjpohaaG9
namespace Go.Proofs.Ytgjkkapopjpohaa
open Go.RowKit

theorem clo_ret (p : Nat) (A : Option Addr) (n c : Nat) (x y z : Int) (b : Bool) (w : World) (hp : Whole w p 25 #[.slice A n c])
    (h : ∀ w', Below w.heap.size w w' → Calls Try.prog 19 #[.slice A n c] w' fun e w'' => e = .returned (tl x y z b) ∧ Below w'.heap.size w' w'') :
    Calls Try.prog 18 #[.pointer (some ⟨p, 0, none⟩)] w fun e w' => e = .returned (tl x y z b) ∧ Below w.heap.size w w' := by
  have HB0 := Lib.hid ((Below.refl w.heap.size w).alloc (Nat.le_refl _) (.cells #[.int .i64 0, .int .i64 0, .int .i64 0, .bool false] 23))
  have HT := Lib.hid (Whole.new w 23 #[.int .i64 0, .int .i64 0, .int .i64 0, .bool false] rfl)
  have H := Lib.hid (h _ HB0.out)
  have p0 := hp.cell 0
  have hl := hp.lt
  simp at p0
  clear h
  go_enter Try.func18, Try.ntmps18
  go_wp2_with fail
  refine H.out.mono ?_
  rintro e w1 ⟨rfl, hb⟩
  have HT := Lib.hid (HT.out.below' hb)
  have HB := Lib.hid (HB0.out.trans (hb.mono HB0.out.size))
  have r0 := HT.out.cell 0
  have r1 := HT.out.cell 1
  have r2 := HT.out.cell 2
  have r3 := HT.out.cell 3
  have z0 := HT.out.free 0
  have z1 := HT.out.free 1
  have z2 := HT.out.free 2
  have z3 := HT.out.free 3
  simp at r0 r1 r2 r3
  have HM := Lib.hid (((((HT.out.put 0 (.int .i64 x) rfl).put 1 (.int .i64 y) rfl).put 2 (.int .i64 z) rfl).put 3 (.bool b) rfl))
  have h0 := HM.out.cell 0
  have h1 := HM.out.cell 1
  have h2 := HM.out.cell 2
  have h3 := HM.out.cell 3
  simp at h0 h1 h2 h3
  clear hb
  go_wp2
  simp [bodyPost, results, Try.results18, go_sem, h0, h1, h2, h3]
  exact (((HB.out.setCell (by show w.heap.size ≤ w.heap.size; omega) _).setCell (by show w.heap.size ≤ w.heap.size; omega) _).setCell (by show w.heap.size ≤ w.heap.size; omega) _).setCell (by show w.heap.size ≤ w.heap.size; omega) _
theorem clo_throw (p : Nat) (A : Option Addr) (n c : Nat) (k : Int) (w : World) (hp : Whole w p 25 #[.slice A n c])
    (h : ∀ w', Below w.heap.size w w' → Calls Try.prog 19 #[.slice A n c] w' fun e w'' => e = .panicked [{ v := fault k, recovered := false }] ∧ Below w'.heap.size w' w'') :
    Calls Try.prog 18 #[.pointer (some ⟨p, 0, none⟩)] w fun e w' => e = .panicked [{ v := fault k, recovered := false }] ∧ Below w.heap.size w w' := by
  have HB0 := Lib.hid ((Below.refl w.heap.size w).alloc (Nat.le_refl _) (.cells #[.int .i64 0, .int .i64 0, .int .i64 0, .bool false] 23))
  have H := Lib.hid (h _ HB0.out)
  have p0 := hp.cell 0
  have hl := hp.lt
  simp at p0
  clear h
  go_enter Try.func18, Try.ntmps18
  go_wp2_with fail
  refine H.out.mono ?_
  rintro e w1 ⟨rfl, hb⟩
  have HB := Lib.hid (HB0.out.trans (hb.mono HB0.out.size))
  clear hb
  go_wp2
  simp [bodyPost]
  exact HB.out
set_option maxHeartbeats 4000000 in
theorem parse_slim (A : Option Addr) (n c : Nat) (x y z : Int) (w : World) (hn : n ≤ 1000) (hL : 22 ≤ n)
    (h : ∀ w', Below w.heap.size w w' → Calls Try.prog 19 #[.slice A n c] w' fun e w'' => e = .returned (tl x y z false) ∧ Below w'.heap.size w' w'') :
    Calls Try.prog 12 #[.slice A n c] w fun e w' => e = .returned (.tuple #[tl x y z false, .int .i64 ((n - 22 : Nat) : Int), .int .i64 0]) ∧ Below w.heap.size w w' := by
  have hmf : ∀ (fn : Fn) (first cap : Array Value) (w : World), (Instr.makeFunc fn first cap).run Try.prog w = .ok (.func fn first cap) w := fun _ _ _ _ => rfl
  have HB0 := Lib.hid (((Below.refl w.heap.size w).alloc (Nat.le_refl _) (.cells #[.slice A n c] 25)).alloc (by simp) (.cells #[.int .i64 0, .int .i64 0, .int .i64 0, .bool false] 23))
  have HP := Lib.hid ((Whole.new w 25 #[.slice A n c] rfl).alloc (.cells #[.int .i64 0, .int .i64 0, .int .i64 0, .bool false] 23))
  have HR := Lib.hid (Whole.new (w.alloc (.cells #[.slice A n c] 25)) 23 #[.int .i64 0, .int .i64 0, .int .i64 0, .bool false] (b := w.heap.size + 1) (by simp))
  have HT := Lib.hid (tryT_ret 18 #[.pointer (some ⟨w.heap.size, 0, none⟩)] x y z false ((w.alloc (.cells #[.slice A n c] 25)).alloc (.cells #[.int .i64 0, .int .i64 0, .int .i64 0, .bool false] 23)) (fun _ => by kernel_rfl) (fun w' hb => clo_ret w.heap.size A n c x y z false w' (HP.out.below' hb) (fun w'' hb2 => h w'' ((HB0.out.trans (hb.mono HB0.out.size)).trans (hb2.mono (HB0.out.trans (hb.mono HB0.out.size)).size)))))
  obtain ⟨k, hk⟩ : ∃ k, n - 22 = k := ⟨_, rfl⟩
  rw [hk]
  have e1 : IntKind.i64.wrap ((n : Int) - 22) = (k : Int) := by rw [IntWalk.i64_in _ (by omega)]; omega
  have e1' : ((n : Int) - 22) = (k : Int) := by omega
  clear h hk
  go_enter Try.func12, Try.ntmps12
  go_wp2_with fail
  refine HT.out.mono ?_
  rintro e w1 ⟨rfl, hb⟩
  have HP := Lib.hid (HP.out.below' hb)
  have HR := Lib.hid (HR.out.below' hb)
  have HB := Lib.hid (HB0.out.trans (hb.mono HB0.out.size))
  clear hb HT
  have p0 := HP.out.cell 0
  have r0 := HR.out.cell 0
  have r1 := HR.out.cell 1
  have r2 := HR.out.cell 2
  have r3 := HR.out.cell 3
  have z0 := HR.out.free 0
  have z1 := HR.out.free 1
  have z2 := HR.out.free 2
  have z3 := HR.out.free 3
  have hl0 := HP.out.lt
  have hl1 := HR.out.lt
  simp at p0 r0 r1 r2 r3
  have HM := Lib.hid ((((((HR.out.put 0 (.int .i64 x) rfl).put 1 (.int .i64 y) rfl).put 2 (.int .i64 z) rfl).put 3 (.bool false) rfl).alloc (.cells #[.int .i64 x, .int .i64 y, .int .i64 z, .bool false] 23)))
  have h0 := HM.out.cell 0
  have h1 := HM.out.cell 1
  have h2 := HM.out.cell 2
  have h3 := HM.out.cell 3
  simp at h0 h1 h2 h3
  go_wp2
  go_region_law (fail)
  all_goals
    go_wp2
    simp [bodyPost, results, Try.results12, go_sem, h0, h1, h2, h3]
    exact ⟨IntWalk.i64_in _ (by omega), (((((HB.out.setCell (p := ⟨w.heap.size + 1, 0, none⟩) (by show w.heap.size ≤ w.heap.size + 1; omega) _).setCell (p := ⟨w.heap.size + 1, 1, none⟩) (by show w.heap.size ≤ w.heap.size + 1; omega) _).setCell (p := ⟨w.heap.size + 1, 2, none⟩) (by show w.heap.size ≤ w.heap.size + 1; omega) _).setCell (p := ⟨w.heap.size + 1, 3, none⟩) (by show w.heap.size ≤ w.heap.size + 1; omega) _).alloc (by simp; exact HB.out.size) _).drew⟩
set_option maxHeartbeats 4000000 in
theorem parse_wide (A : Option Addr) (n c : Nat) (x y z : Int) (w : World) (hn : n ≤ 1000) (hL : 98 ≤ n)
    (h : ∀ w', Below w.heap.size w w' → Calls Try.prog 19 #[.slice A n c] w' fun e w'' => e = .returned (tl x y z true) ∧ Below w'.heap.size w' w'') :
    Calls Try.prog 12 #[.slice A n c] w fun e w' => e = .returned (.tuple #[tl x y z true, .int .i64 ((n - 98 : Nat) : Int), .int .i64 0]) ∧ Below w.heap.size w w' := by
  have hmf : ∀ (fn : Fn) (first cap : Array Value) (w : World), (Instr.makeFunc fn first cap).run Try.prog w = .ok (.func fn first cap) w := fun _ _ _ _ => rfl
  have HB0 := Lib.hid (((Below.refl w.heap.size w).alloc (Nat.le_refl _) (.cells #[.slice A n c] 25)).alloc (by simp) (.cells #[.int .i64 0, .int .i64 0, .int .i64 0, .bool false] 23))
  have HP := Lib.hid ((Whole.new w 25 #[.slice A n c] rfl).alloc (.cells #[.int .i64 0, .int .i64 0, .int .i64 0, .bool false] 23))
  have HR := Lib.hid (Whole.new (w.alloc (.cells #[.slice A n c] 25)) 23 #[.int .i64 0, .int .i64 0, .int .i64 0, .bool false] (b := w.heap.size + 1) (by simp))
  have HT := Lib.hid (tryT_ret 18 #[.pointer (some ⟨w.heap.size, 0, none⟩)] x y z true ((w.alloc (.cells #[.slice A n c] 25)).alloc (.cells #[.int .i64 0, .int .i64 0, .int .i64 0, .bool false] 23)) (fun _ => by kernel_rfl) (fun w' hb => clo_ret w.heap.size A n c x y z true w' (HP.out.below' hb) (fun w'' hb2 => h w'' ((HB0.out.trans (hb.mono HB0.out.size)).trans (hb2.mono (HB0.out.trans (hb.mono HB0.out.size)).size)))))
  obtain ⟨k, hk⟩ : ∃ k, n - 98 = k := ⟨_, rfl⟩
  rw [hk]
  have e1 : IntKind.i64.wrap ((n : Int) - 98) = (k : Int) := by rw [IntWalk.i64_in _ (by omega)]; omega
  have e1' : ((n : Int) - 98) = (k : Int) := by omega
  clear h hk
  go_enter Try.func12, Try.ntmps12
  go_wp2_with fail
  refine HT.out.mono ?_
  rintro e w1 ⟨rfl, hb⟩
  have HP := Lib.hid (HP.out.below' hb)
  have HR := Lib.hid (HR.out.below' hb)
  have HB := Lib.hid (HB0.out.trans (hb.mono HB0.out.size))
  clear hb HT
  have p0 := HP.out.cell 0
  have r0 := HR.out.cell 0
  have r1 := HR.out.cell 1
  have r2 := HR.out.cell 2
  have r3 := HR.out.cell 3
  have z0 := HR.out.free 0
  have z1 := HR.out.free 1
  have z2 := HR.out.free 2
  have z3 := HR.out.free 3
  have hl0 := HP.out.lt
  have hl1 := HR.out.lt
  simp at p0 r0 r1 r2 r3
  have HM := Lib.hid ((((((HR.out.put 0 (.int .i64 x) rfl).put 1 (.int .i64 y) rfl).put 2 (.int .i64 z) rfl).put 3 (.bool true) rfl).alloc (.cells #[.int .i64 x, .int .i64 y, .int .i64 z, .bool true] 23)))
  have h0 := HM.out.cell 0
  have h1 := HM.out.cell 1
  have h2 := HM.out.cell 2
  have h3 := HM.out.cell 3
  simp at h0 h1 h2 h3
  go_wp2
  go_region_law (fail)
  all_goals
    go_wp2
    simp [bodyPost, results, Try.results12, go_sem, h0, h1, h2, h3]
    exact ⟨IntWalk.i64_in _ (by omega), (((((HB.out.setCell (p := ⟨w.heap.size + 1, 0, none⟩) (by show w.heap.size ≤ w.heap.size + 1; omega) _).setCell (p := ⟨w.heap.size + 1, 1, none⟩) (by show w.heap.size ≤ w.heap.size + 1; omega) _).setCell (p := ⟨w.heap.size + 1, 2, none⟩) (by show w.heap.size ≤ w.heap.size + 1; omega) _).setCell (p := ⟨w.heap.size + 1, 3, none⟩) (by show w.heap.size ≤ w.heap.size + 1; omega) _).alloc (by simp; exact HB.out.size) _).drew⟩
set_option maxHeartbeats 4000000 in
theorem parse_none (A : Option Addr) (n c : Nat) (k : Int) (w : World) (hk : (k == 0) = false)
    (h : ∀ w', Below w.heap.size w w' → Calls Try.prog 19 #[.slice A n c] w' fun e w'' => e = .panicked [{ v := fault k, recovered := false }] ∧ Below w'.heap.size w' w'') :
    Calls Try.prog 12 #[.slice A n c] w fun e w' => e = .returned (.tuple #[tl 0 0 0 false, .int .i64 0, .int .i64 k]) ∧ Below w.heap.size w w' := by
  have hmf : ∀ (fn : Fn) (first cap : Array Value) (w : World), (Instr.makeFunc fn first cap).run Try.prog w = .ok (.func fn first cap) w := fun _ _ _ _ => rfl
  have HB0 := Lib.hid (((Below.refl w.heap.size w).alloc (Nat.le_refl _) (.cells #[.slice A n c] 25)).alloc (by simp) (.cells #[.int .i64 0, .int .i64 0, .int .i64 0, .bool false] 23))
  have HP := Lib.hid ((Whole.new w 25 #[.slice A n c] rfl).alloc (.cells #[.int .i64 0, .int .i64 0, .int .i64 0, .bool false] 23))
  have HR := Lib.hid (Whole.new (w.alloc (.cells #[.slice A n c] 25)) 23 #[.int .i64 0, .int .i64 0, .int .i64 0, .bool false] (b := w.heap.size + 1) (by simp))
  have HT := Lib.hid (tryT_throw 18 #[.pointer (some ⟨w.heap.size, 0, none⟩)] k ((w.alloc (.cells #[.slice A n c] 25)).alloc (.cells #[.int .i64 0, .int .i64 0, .int .i64 0, .bool false] 23)) (fun _ => by kernel_rfl) (fun w' hb => clo_throw w.heap.size A n c k w' (HP.out.below' hb) (fun w'' hb2 => h w'' ((HB0.out.trans (hb.mono HB0.out.size)).trans (hb2.mono (HB0.out.trans (hb.mono HB0.out.size)).size)))))
  clear h
  go_enter Try.func12, Try.ntmps12
  go_wp2_with fail
  refine HT.out.mono ?_
  rintro e w1 ⟨rfl, hb⟩
  have HR := Lib.hid (HR.out.below' hb)
  have HB := Lib.hid (HB0.out.trans (hb.mono HB0.out.size))
  clear hb HT
  have r0 := HR.out.cell 0
  have r1 := HR.out.cell 1
  have r2 := HR.out.cell 2
  have r3 := HR.out.cell 3
  have z0 := HR.out.free 0
  have z1 := HR.out.free 1
  have z2 := HR.out.free 2
  have z3 := HR.out.free 3
  have hl1 := HR.out.lt
  simp at r0 r1 r2 r3
  have HM := Lib.hid (((((HR.out.put 0 (.int .i64 0) rfl).put 1 (.int .i64 0) rfl).put 2 (.int .i64 0) rfl).put 3 (.bool false) rfl).alloc (.cells #[.int .i64 0, .int .i64 0, .int .i64 0, .bool false] 23))
  have h0 := HM.out.cell 0
  have h1 := HM.out.cell 1
  have h2 := HM.out.cell 2
  have h3 := HM.out.cell 3
  simp at h0 h1 h2 h3
  go_wp2
  simp [bodyPost, results, Try.results12, go_sem, h0, h1, h2, h3]
  exact (((((HB.out.setCell (p := ⟨w.heap.size + 1, 0, none⟩) (by show w.heap.size ≤ w.heap.size + 1; omega) _).setCell (p := ⟨w.heap.size + 1, 1, none⟩) (by show w.heap.size ≤ w.heap.size + 1; omega) _).setCell (p := ⟨w.heap.size + 1, 2, none⟩) (by show w.heap.size ≤ w.heap.size + 1; omega) _).setCell (p := ⟨w.heap.size + 1, 3, none⟩) (by show w.heap.size ≤ w.heap.size + 1; omega) _).alloc (by simp; exact HB.out.size) _)
end Go.Proofs.Ytgjkkapopjpohaa
