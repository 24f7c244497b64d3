/- What time follows: the page's answer, walked. -/
import Derived.Test.YtfjbjfebopabaaaW11
namespace Go.Proofs.Ytfjbjfebopabaaa
open Go.RowKit

def rnextV (X Z : Int) (r : Bool) : Value := .tuple #[if r then tmD X Z else tm 0 0 0 0 0 0, .bool r]
set_option maxHeartbeats 2000000 in
theorem rnext_any (y mo d h mi s X Z : Int) (r : Bool) (w : World) (hb : rightB y mo d h mi s = true) (hg : Goal (dateI y mo d) (clockI h mi s) X Z r) :
    Calls Try.prog 14 #[tm y mo d h mi s] w fun e w' => e = .returned (rnextV X Z r) ∧ Below w.heap.size w w' := by
  have hr := RightT.of hb
  have HG := Lib.hid hg
  have HR := Lib.hid hr
  clear hb hg hr
  go_enter Try.func14, Try.ntmps14
  go_wp2_with fail
  refine (rencode_any _ _ _ _ _ _ _ HR.out).mono ?_
  rintro e w1 ⟨rfl, hb1⟩
  have X0 := (Whole.new (w.alloc (.cells #[.int .i64 y, .int .i64 mo, .int .i64 d, .int .i64 h, .int .i64 mi, .int .i64 s] 23)) 23 #[.int .i64 0, .int .i64 0, .int .i64 0, .int .i64 0, .int .i64 0, .int .i64 0] rfl).below' hb1
  rw [World.size_alloc] at X0
  have HX0 := Lib.hid X0
  have HB0 := Lib.hid ((((Below.refl _ _).alloc (Nat.le_refl _) _).alloc (by simp) _).trans (hb1.mono (by simp; omega)))
  clear hb1 X0
  generalize dateI y mo d = A at *
  generalize clockI h mi s = B at *
  go_wp2
  go_loopw [4, 5] (fun da cl wr => ∃ a b : Int, Hid (At A B X Z r a b) ∧ da = .int .i64 a ∧ cl = .int .i64 b ∧ Hid (Below w.heap.size w wr) ∧ Hid (Whole wr (w.heap.size + 1) 23 #[.int .i64 0, .int .i64 0, .int .i64 0, .int .i64 0, .int .i64 0, .int .i64 0])) (fun da cl _ => ((65536 - intOf da) * 65536 + (65536 - intOf cl)).toNat)
  case atStart => exact ⟨A, B, HG.out.start, rfl, rfl, HB0, HX0⟩
  case round =>
    obtain ⟨a, b, hA, rfl, rfl, hB, hX⟩ := hrel
    clear HX0 HB0
    obtain ⟨h1, h2, h3, h4, _⟩ := hA.out
    have lx := hX.out.lt
    have fx := hX.out.free
    by_cases ha : a < 65536
    · by_cases hlt : b < 65535
      · rcases HG.out.within hA.out ha hlt with ⟨rfl, rfl, rfl, hv⟩ | ⟨hv, hn⟩
        · have HV := Lib.hid hv
          clear hv
          go_wp2_with fail
          refine (rdec_t _ _ _ HV.out h1 h2 (by omega) (by omega)).mono ?_
          rintro e w2 ⟨rfl, hb2⟩
          have X2 := Lib.hid (hX.out.below' hb2)
          have B2 := Lib.hid (hB.out.trans (hb2.mono hB.out.size))
          clear hb2
          have c2 := X2.out.cell
          have f2 := X2.out.free
          have l2 := X2.out.lt
          go_wp2
          refine bodyPost_ret (v := .tuple #[tmD X (b + 1), .bool true]) (by simp [results, Try.results14, go_sem, c2, l2, World.cell?_alloc_lt]) rfl ⟨rfl, ?_⟩
          refine Below.alloc ?_ (by have := B2.out.size; simp; omega) _
          iterate 6 refine Below.setCell ?_ (by exact Nat.le_succ _) _
          exact B2.out
        · have HV := Lib.hid hv
          have HN := Lib.hid hn
          clear hv hn
          have d0 : (b + 1 == 0) = false := by simp; omega
          go_wp2_with fail
          refine (rdec_f _ _ _ HV.out h1 h2 (by omega) (by omega)).mono ?_
          rintro e w2 ⟨rfl, hb2⟩
          have X2 := Lib.hid (hX.out.below' hb2)
          have B2 := Lib.hid (hB.out.trans (hb2.mono hB.out.size))
          clear hb2
          go_wp2
          go_roundw
          case rel => exact ⟨a, b + 1, HN, rfl, rfl, Lib.hid (B2.out.alloc B2.out.size _), Lib.hid (X2.out.alloc _)⟩
          case measure => simp [intOf]; omega
      · obtain rfl : b = 65535 := by omega
        rcases HG.out.behind hA.out ha with ⟨rfl, rfl, rfl, hq, hv⟩ | ⟨hv, hn⟩
        · have HV := Lib.hid hv
          clear hv
          go_wp2_with fail
          refine (rdec_t _ _ _ HV.out (by omega) (by omega) (by omega) (by omega)).mono ?_
          rintro e w2 ⟨rfl, hb2⟩
          have X2 := Lib.hid (hX.out.below' hb2)
          have B2 := Lib.hid (hB.out.trans (hb2.mono hB.out.size))
          clear hb2
          have c2 := X2.out.cell
          have f2 := X2.out.free
          have l2 := X2.out.lt
          go_wp2
          refine bodyPost_ret (v := .tuple #[tmD (a + 1) 0, .bool true]) (by simp [results, Try.results14, go_sem, c2, l2, World.cell?_alloc_lt]) rfl ⟨rfl, ?_⟩
          refine Below.alloc ?_ (by have := B2.out.size; simp; omega) _
          iterate 6 refine Below.setCell ?_ (by exact Nat.le_succ _) _
          exact B2.out
        · have HV := Lib.hid hv
          have HN := Lib.hid hn
          clear hv hn
          go_wp2_with fail
          refine (rdec_f _ _ _ HV.out (by omega) (by omega) (by omega) (by omega)).mono ?_
          rintro e w2 ⟨rfl, hb2⟩
          have X2 := Lib.hid (hX.out.below' hb2)
          have B2 := Lib.hid (hB.out.trans (hb2.mono hB.out.size))
          clear hb2
          go_wp2_with fail
          refine (rdec_f _ _ _ HV.out (by omega) (by omega) (by omega) (by omega)).mono ?_
          rintro e w3 ⟨rfl, hb3⟩
          have X3 := Lib.hid ((X2.out.alloc _).below' hb3)
          have B3 := Lib.hid ((B2.out.alloc B2.out.size _).trans (hb3.mono (by have := B2.out.size; simp; omega)))
          clear hb3
          go_wp2
          go_roundw
          case rel => exact ⟨a + 1, 65535, HN, rfl, rfl, Lib.hid (B3.out.alloc B3.out.size _), Lib.hid (X3.out.alloc _)⟩
          case measure => simp [intOf]; omega
    · have hq := HG.out.over hA.out ha
      have cx := hX.out.cell
      subst hq
      go_wp2
      refine bodyPost_ret (v := .tuple #[tm 0 0 0 0 0 0, .bool false]) (by simp [results, Try.results14, go_sem, cx]) rfl ⟨rfl, ?_⟩
      iterate 6 refine Below.setCell ?_ (by exact Nat.le_succ _) _
      exact hB.out
end Go.Proofs.Ytfjbjfebopabaaa
