/- The law. -/
import Derived.Test.YtafdflpjfdeohaaE6
import Derived.Test.YtafdflpjfdeohaaD8
namespace Go.Proofs.Ytafdflpjfdeohaa
open Go.RowKit

set_option maxHeartbeats 1000000 in
theorem cloL_ret (g q d : Nat) (c0 c1 c2 : Value) (A : Option Addr) (n cap o : Nat) (x y z : Int) (b : Bool) (w : World) (hq : Whole w q 37 #[.pointer (some ⟨g, 0, none⟩)]) (hp : Whole w d 24 #[c0, c1, c2, .bool b]) (hgl : g < w.heap.size)
    (h : ∀ w', Below w.heap.size w w' → Calls Try.prog 15 #[.pointer (some ⟨g, 0, none⟩), .bool b] w' fun e w'' => e = .returned (tl x y z b) ∧ Moved w' g A n cap o w'') :
    Calls Try.prog 14 #[.pointer (some ⟨q, 0, none⟩), .pointer (some ⟨d, 0, none⟩)] w fun e w' => e = .returned (tl x y z b) ∧ Moved w g A n cap o w' := by
  have HA0 := Lib.hid ((Alone.refl w g).alloc (.cells #[.int .u32 0, .int .i64 0, .int .i64 0, .bool false] 24))
  have HT := Lib.hid (Whole.new w 24 #[.int .u32 0, .int .i64 0, .int .i64 0, .bool false] rfl)
  have H := Lib.hid (h _ ((Below.refl w.heap.size w).alloc (Nat.le_refl _) (.cells #[.int .u32 0, .int .i64 0, .int .i64 0, .bool false] 24)))
  have q0 := hq.cell 0
  have p3 := hp.cell 3
  have hlq := hq.lt
  have hlp := hp.lt
  simp at p3 q0
  clear h
  go_enter Try.func14, Try.ntmps14
  go_wp2_with fail
  refine H.out.mono ?_
  rintro e w1 ⟨rfl, hM⟩
  have HT := Lib.hid (hM.1.whole HT.out (by omega))
  have HA := Lib.hid (HA0.out.trans hM.1)
  have HG := Lib.hid hM.2
  have r0 := HT.out.cell 0
  have r1 := HT.out.cell 1
  have r2 := HT.out.cell 2
  have r3 := HT.out.cell 3
  have z0 := HT.out.free 0
  have z1 := HT.out.free 1
  have z2 := HT.out.free 2
  have z3 := HT.out.free 3
  simp at r0 r1 r2 r3
  have HM := Lib.hid (((((HT.out.put 0 (.int .u32 x) rfl).put 1 (.int .i64 y) rfl).put 2 (.int .i64 z) rfl).put 3 (.bool b) rfl))
  have h0 := HM.out.cell 0
  have h1 := HM.out.cell 1
  have h2 := HM.out.cell 2
  have h3 := HM.out.cell 3
  simp at h0 h1 h2 h3
  clear hM
  go_wp2
  simp [bodyPost, results, Try.results14, go_sem, h0, h1, h2, h3]
  have hgn : g ≠ w.heap.size := by omega
  exact ⟨alone_new (alone_new (alone_new (alone_new HA.out (p := ⟨w.heap.size, 0, none⟩) (Nat.le_refl _) _) (p := ⟨w.heap.size, 1, none⟩) (Nat.le_refl _) _) (p := ⟨w.heap.size, 2, none⟩) (Nat.le_refl _) _) (p := ⟨w.heap.size, 3, none⟩) (Nat.le_refl _) _,
    (((HG.out.other (p := ⟨w.heap.size, 0, none⟩) hgn _).other (p := ⟨w.heap.size, 1, none⟩) hgn _).other (p := ⟨w.heap.size, 2, none⟩) hgn _).other (p := ⟨w.heap.size, 3, none⟩) hgn _⟩
set_option maxHeartbeats 1000000 in
theorem cloL_throw (g q d : Nat) (c0 c1 c2 : Value) (b : Bool) (k : Int) (w : World) (hq : Whole w q 37 #[.pointer (some ⟨g, 0, none⟩)]) (hp : Whole w d 24 #[c0, c1, c2, .bool b]) (hgl : g < w.heap.size)
    (h : ∀ w', Below w.heap.size w w' → Calls Try.prog 15 #[.pointer (some ⟨g, 0, none⟩), .bool b] w' fun e w'' => e = .panicked [{ v := fault k, recovered := false }] ∧ Alone w' w'' g) :
    Calls Try.prog 14 #[.pointer (some ⟨q, 0, none⟩), .pointer (some ⟨d, 0, none⟩)] w fun e w' => e = .panicked [{ v := fault k, recovered := false }] ∧ Alone w w' g := by
  have HA0 := Lib.hid ((Alone.refl w g).alloc (.cells #[.int .u32 0, .int .i64 0, .int .i64 0, .bool false] 24))
  have HT := Lib.hid (Whole.new w 24 #[.int .u32 0, .int .i64 0, .int .i64 0, .bool false] rfl)
  have H := Lib.hid (h _ ((Below.refl w.heap.size w).alloc (Nat.le_refl _) (.cells #[.int .u32 0, .int .i64 0, .int .i64 0, .bool false] 24)))
  have q0 := hq.cell 0
  have p3 := hp.cell 3
  have hlq := hq.lt
  have hlp := hp.lt
  simp at p3 q0
  clear h
  go_enter Try.func14, Try.ntmps14
  go_wp2_with fail
  refine H.out.mono ?_
  rintro e w1 ⟨rfl, hM⟩
  have HM := Lib.hid (HA0.out.trans hM)
  clear hM
  go_wp2
  simp [bodyPost]
  exact HM.out
end Go.Proofs.Ytafdflpjfdeohaa
