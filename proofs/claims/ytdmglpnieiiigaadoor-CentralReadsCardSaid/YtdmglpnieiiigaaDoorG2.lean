/- What is thrown, and caught. -/
import Derived.Test.YtdmglpnieiiigaaDoorG1
import Derived.IntWalk
import Derived.Defers
import Derived.Recover
namespace Go.Proofs.YtdmglpnieiiigaaDoor
open Go.RowKit

abbrev fault (c : Int) : Value := .iface 89 (.agg #[.int .i64 c])
set_option maxRecDepth 100000 in
theorem throw_any (c : Int) (w : World) : Calls Tryd.prog 56 #[.int .i64 c] w fun e w' => e = .panicked [{ v := fault c, recovered := false }] ∧ w = w' := by
  go_enter Tryd.func56, Tryd.ntmps56
  go_wp2
  simp [bodyPost, fault]
set_option maxRecDepth 100000 in
theorem catch_panicking (b : Nat) (x : Value) (c : Int) (older : List PanicEntry) (w : World) (hc : w.cell? ⟨b, 0, none⟩ = some x) (hz : w.frozen? ⟨b, 0, none⟩ = false) (hp : b < w.heap.size) :
    CallsD Tryd.prog 52 #[.pointer (some ⟨b, 0, none⟩)] (.panicking ({ v := fault c, recovered := false } :: older)) w fun e u' w' =>
      e = .returned (.tuple #[]) ∧ u' = .panicking ({ v := fault c, recovered := true } :: older) ∧ w' = (w.alloc (.cells #[.int .i64 c] 89)).setCell ⟨b, 0, none⟩ (.int .i64 c) := by
  refine callsD_of_wpS Tryd.func52 rfl fun c₀ cs hu => ?_
  apply wpS_seq
  apply wpS_region
  simp [wpOpsS, go_sem, recoverD, hu, Tryd.ntmps52, Exit.thenS]
  refine wpS_of_wp ?_
  refine Code.wp_mono (Q := fun e a w' => e = .normal ∧ a.defers = [] ∧ w' = (w.alloc (.cells #[.int .i64 c] 89)).setCell ⟨b, 0, none⟩ (.int .i64 c)) ?_ ?_
  · rintro e a w' ⟨rfl, hd, rfl⟩
    simp [bodyPostS, results, Tryd.results52, hd]
  · have hne : ∀ w, (binOp .neq 20 (fault c) .nilIface).run Tryd.prog w = .ok (.bool true) w := fun _ => rfl
    have hta : ∀ w, (Instr.typeAssert (fault c) 20 89 true).run Tryd.prog w = .ok (.tuple #[.agg #[.int .i64 c], .bool true]) w := fun _ => by kernel_rfl
    have pb : b ≠ w.heap.size := by omega
    refine (show Code.wp Tryd.prog _ _ ⟨#[.pointer (some ⟨b, 0, none⟩), fault c, undef, undef, fault c, undef, undef, undef, undef, undef, undef, undef, undef, undef, undef, undef, undef], []⟩ w → _ from fun h => h) ?_
    go_wp2
set_option maxRecDepth 100000 in
theorem catch_idle (b : Nat) (w : World) :
    CallsD Tryd.prog 52 #[.pointer (some ⟨b, 0, none⟩)] .returning w fun e u' w' => e = .returned (.tuple #[]) ∧ u' = .returning ∧ w' = w := by
  refine callsD_of_wpS Tryd.func52 rfl fun c₀ cs hu => ?_
  apply wpS_seq
  apply wpS_region
  simp [wpOpsS, go_sem, recoverD, hu, Tryd.ntmps52, Exit.thenS]
  refine wpS_of_wp ?_
  refine Code.wp_mono (Q := fun e a w' => e = .normal ∧ a.defers = [] ∧ w' = w) ?_ ?_
  · rintro e a w' ⟨rfl, hd, rfl⟩
    cases c₀
    simp_all [bodyPostS, results, Tryd.results52]
  · have hne : ∀ w, (binOp .neq 20 .nilIface .nilIface).run Tryd.prog w = .ok (.bool false) w := fun _ => rfl
    refine (show Code.wp Tryd.prog _ _ ⟨#[.pointer (some ⟨b, 0, none⟩), .nilIface, undef, undef, .nilIface, undef, undef, undef, undef, undef, undef, undef, undef, undef, undef, undef, undef], []⟩ w → _ from fun h => h) ?_
    go_wp2
/-- What Catch leaves: the code, and what its function left, but for the block of the result. -/
def CatchP (w : World) (Q : World → Prop) (c : Int) (e : Ending) (w'' : World) : Prop := e = .returned (.int .i64 c) ∧ ∃ w', Q w' ∧ Alone w' w'' w.heap.size
set_option maxRecDepth 100000 in
theorem catch_ret (F : Value) (w : World) (Q : World → Prop)
    (hc : Calls Tryd.prog 53 #[F] (w.alloc (.cells #[.int .i64 0] 34)) fun e w' => e = .returned (.tuple #[]) ∧ Whole w' w.heap.size 34 #[.int .i64 0] ∧ Q w') :
    Calls Tryd.prog 34 #[F] w (CatchP w Q 0) := by
  have hmf : ∀ (fn : Fn) (first cap : Array Value) (w : World), (Instr.makeFunc fn first cap).run Tryd.prog w = .ok (.func fn first cap) w := fun _ _ _ _ => rfl
  have HC := Lib.hid hc
  clear hc
  go_enter_defers Tryd.func34, Tryd.ntmps34
  go_wp2_with fail
  refine HC.out.mono ?_
  rintro e w1 ⟨rfl, hW, hQ⟩
  have HQ := Lib.hid hQ
  have c0 := hW.cell 0
  have f0 := hW.free 0
  have HW := Lib.hid (hW.put 0 (.int .i64 0) rfl)
  clear hQ hW
  go_wp2
  refine leaves_cons (f := 52) (args := #[.pointer (some ⟨w.heap.size, 0, none⟩)]) (by simp) (by simp [go_sem]) ?_
  refine (catch_idle w.heap.size _).mono ?_
  rintro e u' w'' ⟨rfl, rfl, rfl⟩
  have c1 := HW.out.cell 0
  have HA := Lib.hid ((Alone.refl w1 w.heap.size).put 0 (.int .i64 0))
  simp [Leaves, settle, results, Tryd.results34, go_sem, c1]
  exact ⟨rfl, w1, HQ.out, HA.out⟩
set_option maxRecDepth 100000 in
theorem catch_throw (F : Value) (c : Int) (w : World) (Q : World → Prop)
    (hc : Calls Tryd.prog 53 #[F] (w.alloc (.cells #[.int .i64 0] 34)) fun e w' => e = .panicked [{ v := fault c, recovered := false }] ∧ Whole w' w.heap.size 34 #[.int .i64 0] ∧ Q w') :
    Calls Tryd.prog 34 #[F] w (CatchP w Q c) := by
  have hmf : ∀ (fn : Fn) (first cap : Array Value) (w : World), (Instr.makeFunc fn first cap).run Tryd.prog w = .ok (.func fn first cap) w := fun _ _ _ _ => rfl
  have HC := Lib.hid hc
  clear hc
  go_enter_defers Tryd.func34, Tryd.ntmps34
  go_wp2_with fail
  refine HC.out.mono ?_
  rintro e w1 ⟨rfl, hW, hQ⟩
  have HQ := Lib.hid hQ
  have HW := Lib.hid hW
  clear hQ hW
  go_wp2
  refine leaves_cons (f := 52) (args := #[.pointer (some ⟨w.heap.size, 0, none⟩)]) (by simp) (by simp [go_sem]) ?_
  refine (catch_panicking w.heap.size _ c [] w1 (HW.out.cell 0) (HW.out.free 0) HW.out.lt).mono ?_
  rintro e u' w'' ⟨rfl, rfl, rfl⟩
  have c1 := ((HW.out.alloc (.cells #[.int .i64 c] 89)).put 0 (.int .i64 c) rfl).cell 0
  have HA := Lib.hid (((Alone.refl w1 w.heap.size).alloc (.cells #[.int .i64 c] 89)).put 0 (.int .i64 c))
  simp [Leaves, settle, results, Tryd.results34, go_sem, c1]
  exact ⟨rfl, w1, HQ.out, HA.out⟩
set_option maxRecDepth 100000 in
theorem call_ret (k : FuncId) (caps : Array Value) (w : World) (Q : World → Prop) (hcf : ∀ w, (callFunc k caps).run Tryd.prog w = .ok (.enter k caps) w)
    (h : Calls Tryd.prog k caps w fun e w' => e = .returned (.tuple #[]) ∧ Q w') : Calls Tryd.prog 53 #[.func (.func k) #[] caps] w fun e w' => e = .returned (.tuple #[]) ∧ Q w' := by
  have hne : ∀ w, (binOp .neq 1 (.func (.func k) #[] caps) .nilFunc).run Tryd.prog w = .ok (.bool true) w := fun _ => rfl
  have H := Lib.hid h
  clear h
  go_enter Tryd.func53, Tryd.ntmps53
  go_wp2_with fail
  refine H.out.mono ?_
  rintro e w1 ⟨rfl, hQ⟩
  have HQ := Lib.hid hQ
  clear hQ
  go_wp2
  go_end0
  exact ⟨rfl, HQ.out⟩
set_option maxRecDepth 100000 in
theorem call_throw (k : FuncId) (caps : Array Value) (ch : List PanicEntry) (w : World) (Q : World → Prop) (hcf : ∀ w, (callFunc k caps).run Tryd.prog w = .ok (.enter k caps) w)
    (h : Calls Tryd.prog k caps w fun e w' => e = .panicked ch ∧ Q w') : Calls Tryd.prog 53 #[.func (.func k) #[] caps] w fun e w' => e = .panicked ch ∧ Q w' := by
  have hne : ∀ w, (binOp .neq 1 (.func (.func k) #[] caps) .nilFunc).run Tryd.prog w = .ok (.bool true) w := fun _ => rfl
  have H := Lib.hid h
  clear h
  go_enter Tryd.func53, Tryd.ntmps53
  go_wp2_with fail
  refine H.out.mono ?_
  rintro e w1 ⟨rfl, hQ⟩
  have HQ := Lib.hid hQ
  clear hQ
  go_wp2
  simp [bodyPost]
  exact HQ.out
set_option maxRecDepth 100000 in
theorem check_true (c : Int) (w : World) : Calls Tryd.prog 38 #[.bool true, .int .i64 c] w fun e w' => e = .returned (.tuple #[]) ∧ w = w' := by
  go_enter Tryd.func38, Tryd.ntmps38
  go_wp2
  go_end0
  exact ⟨rfl, rfl⟩
set_option maxRecDepth 100000 in
theorem check_false (c : Int) (w : World) : Calls Tryd.prog 38 #[.bool false, .int .i64 c] w fun e w' => e = .panicked [{ v := fault c, recovered := false }] ∧ w = w' := by
  go_enter Tryd.func38, Tryd.ntmps38
  go_wp2_with fail
  refine (throw_any c _).mono ?_
  rintro e w1 ⟨rfl, rfl⟩
  go_wp2
  simp [bodyPost]
end Go.Proofs.YtdmglpnieiiigaaDoor
