/- FinishBack, for every tail. -/
import Derived.Test.YtgjkkapopjpohaaG11
namespace Go.Proofs.Ytgjkkapopjpohaa
open Go.RowKit
set_option maxHeartbeats 2000000 in
theorem back_bad (n s a : Int) (wd : Bool) (Aa : Option Addr) (l ca : Nat) (cc : Nat) (W : World) (h : okT n s a = false) : Calls Try.prog 5 #[.agg #[.int .i64 n, .int .i64 s, .int .i64 a, .bool wd], .slice Aa l ca, .int .u8 (cc : Nat)] W fun e w' => e = .returned (.bool true) ∧ Below W.heap.size W w' := by
  have HE := Lib.hid (fun w => encode_bad n s a wd w h)
  clear h
  go_enter Try.func5, Try.ntmps5
  go_wp2_with fail
  obtain ⟨w0, hw0⟩ : ∃ w0, W.alloc (.cells #[.int .i64 n, .int .i64 s, .int .i64 a, .bool wd] 23) = w0 := ⟨_, rfl⟩
  rw [hw0]
  have HW0 : Hid (Below W.heap.size W w0) := Lib.hid (hw0 ▸ (Below.refl _ _).alloc (Nat.le_refl _) _)
  have HR : Hid (Whole w0 W.heap.size 23 #[.int .i64 n, .int .i64 s, .int .i64 a, .bool wd]) := Lib.hid (hw0 ▸ Whole.new W 23 _ rfl)
  clear hw0
  refine (awake_any w0).mono ?_
  rintro e w1 ⟨rfl, hb1⟩
  have HB1 : Hid (Below W.heap.size W w1) := Lib.hid (HW0.out.trans (hb1.mono HW0.out.size))
  have HR := Lib.hid (HR.out.below' hb1)
  have r0 := HR.out.cell 0
  have r1 := HR.out.cell 1
  have r2 := HR.out.cell 2
  have r3 := HR.out.cell 3
  simp at r0 r1 r2 r3
  clear hb1
  go_wp2_with fail
  refine (HE.out w1).mono ?_
  rintro e w2 ⟨rfl, hb2⟩
  have HB2 := Lib.hid (HB1.out.trans (hb2.mono HB1.out.size))
  clear hb2 r0 r1 r2 r3
  go_wp2
  go_ret
  exact ⟨rfl, HB2.out⟩
theorem back_law (n s a : Int) (wd : Bool) (Aa : Option Addr) (l ca : Nat) (ah : List UInt8) (cb : UInt8) (cc : Nat) (W : World) (hA : Bs W (fun b => b < W.heap.size) Aa l ah) (hcb : cb.toNat = cc) : Calls Try.prog 5 #[.agg #[.int .i64 n, .int .i64 s, .int .i64 a, .bool wd], .slice Aa l ca, .int .u8 (cc : Nat)] W fun e w' => e = .returned (.bool true) ∧ Below W.heap.size W w' := by
  cases h : okT n s a
  · exact back_bad n s a wd Aa l ca cc W h
  · unfold okT at h
    simp at h
    obtain ⟨n, rfl⟩ := Int.eq_ofNat_of_zero_le (show 0 ≤ n by omega)
    obtain ⟨s, rfl⟩ := Int.eq_ofNat_of_zero_le (show 0 ≤ s by omega)
    obtain ⟨a, rfl⟩ := Int.eq_ofNat_of_zero_le (show 0 ≤ a by omega)
    cases wd
    · exact back_slim n s a Aa l ca ah cb cc W (by omega) (by omega) (by omega) hA hcb
    · exact back_wide n s a Aa l ca ah cb cc W (by omega) (by omega) (by omega) hA hcb
end Go.Proofs.Ytgjkkapopjpohaa
