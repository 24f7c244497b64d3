/- The closures of TrapMust. -/
import Derived.Test.YtmmckhkiclifjaaW3
import Derived.StillTailTactics
namespace Go.Proofs.Ytmmckhkiclifjaa
open Go.RowKit

def Rb (a b : World) : Prop := Below a.heap.size a b
theorem keep_rb (B : Nat) : Keep B Rb := fun _ _ h => ⟨h.size, fun _ _ _ _ hw => hw.below' h⟩
theorem rb_refl (w : World) : Rb w w := Below.refl _ _
theorem must16_ok (b : Nat) (v e : Int) (w : World) (h0 : Whole w b 35 #[.int .u64 v]) (h1 : Whole w (b + 1) 3 #[.int .i64 e]) (he : bits .and .i64 e 63 = 0) :
    Calls Try.prog 16 #[.pointer (some ⟨b, 0, none⟩), .pointer (some ⟨b + 1, 0, none⟩)] w fun x w' => x = .returned (.int .u64 v) ∧ Rb w w' := by
  have c0 := h0.cell 0
  have f0 := h0.free 0
  have c1 := h1.cell 0
  have f1 := h1.free 0
  clear h0 h1
  go_enter Try.func16, Try.ntmps16
  go_wp2_with fail
  skip
  refine (must_ok v _).mono ?_
  rintro x w1 ⟨rfl, rfl⟩
  go_wp2
  go_ret
  exact ⟨rfl, rb_refl _⟩
theorem must16_err (b : Nat) (v e : Int) (w : World) (h0 : Whole w b 35 #[.int .u64 v]) (h1 : Whole w (b + 1) 3 #[.int .i64 e]) (he : (bits .and .i64 e 63 == 0) = false) :
    Calls Try.prog 16 #[.pointer (some ⟨b, 0, none⟩), .pointer (some ⟨b + 1, 0, none⟩)] w fun x w' => x = .panicked [{ v := fault (bits .and .i64 e 63), recovered := false }] ∧ Rb w w' := by
  have c0 := h0.cell 0
  have f0 := h0.free 0
  have c1 := h1.cell 0
  have f1 := h1.free 0
  clear h0 h1
  go_enter Try.func16, Try.ntmps16
  go_wp2_with fail
  refine (must_err v _ he _).mono ?_
  rintro x w1 ⟨rfl, rfl⟩
  go_wp2
  simp [bodyPost]
  exact rb_refl _
theorem check18 (b : Nat) (e : Int) (is : Bool) (w : World) (h0 : Whole w (b + 1) 4 #[.bool is]) (h1 : Whole w b 3 #[.int .i64 e]) :
    Calls Try.prog 18 #[.pointer (some ⟨b + 1, 0, none⟩), .pointer (some ⟨b, 0, none⟩)] w fun x w' =>
      x = (if is then .returned (.tuple #[]) else .panicked [{ v := fault (1 + bits .and .i64 e 63), recovered := false }]) ∧ Rb w w' := by
  have c0 := h0.cell 0
  have f0 := h0.free 0
  have c1 := h1.cell 0
  have f1 := h1.free 0
  have H0 := Lib.hid h0
  have H1 := Lib.hid h1
  clear h0 h1
  go_enter Try.func18, Try.ntmps18
  refine wp_region_still_tail 3 (by kernel_rfl) (by kernel_rfl) ?_
  simp only [List.take_succ_cons, List.take_zero, List.drop_succ_cons, List.drop_zero]
  still_step
  still_step
  still_call ((code_any e _).mono fun _ _ h => ⟨h.1, h.2.symm⟩)
  refine wpStill_nil ?_
  change wpList _ _ _ _ _ w.drew
  obtain ⟨W, hW⟩ : ∃ W, w.drew = W := ⟨_, rfl⟩
  have hR := Lib.hid (show Rb w W from hW ▸ (Below.refl _ _).drew)
  rw [hW]
  clear hW
  cases is
  · go_wp2_with fail
    refine (check_false _ W).mono ?_
    rintro x w1 ⟨rfl, rfl⟩
    go_wp2
    simp [bodyPost, fault]
    exact hR.out
  · go_wp2_with fail
    refine (check_true _ W).mono ?_
    rintro x w1 ⟨rfl, rfl⟩
    go_wp2
    go_end0
    exact ⟨rfl, hR.out⟩
end Go.Proofs.Ytmmckhkiclifjaa
