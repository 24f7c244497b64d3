/- A header as the page's: Ref. -/
import Derived.Test.YtdmglpnieiiigaaDoorT1
namespace Go.Proofs.YtdmglpnieiiigaaDoor
open Go.RowKit

set_option maxRecDepth 100000 in
set_option maxHeartbeats 4000000 in
theorem ref_any (s : ByteArray) (y mo d h mi se me : Int) (c : Nat) (p z : Int) (wd lt : Bool) (w : World) :
    Calls Tryd.prog 7 #[.agg #[.string s, .int .i64 y, .int .i64 mo, .int .i64 d, .int .i64 h, .int .i64 mi, .int .i64 se, .int .i64 me, .int .u32 (c : Nat), .int .i64 p, .int .i64 z, .bool wd, .bool lt]] w fun e w' => e = .returned (.agg #[.string s, .int .i64 y, .int .i64 mo, .int .i64 d, .int .i64 h, .int .i64 mi, .int .i64 se, .int .i64 me, .int .u32 (c : Nat), .int .i64 p, .int .i64 z, .bool wd, .bool lt]) ∧ Below w.heap.size w w' := by
  have HB0 := Lib.hid (((Below.refl w.heap.size w).alloc (Nat.le_refl _) (.cells #[.string s, .int .i64 y, .int .i64 mo, .int .i64 d, .int .i64 h, .int .i64 mi, .int .i64 se, .int .i64 me, .int .u32 (c : Nat), .int .i64 p, .int .i64 z, .bool wd, .bool lt] 26)).alloc (by simp) (.cells #[.string s, .int .i64 y, .int .i64 mo, .int .i64 d, .int .i64 h, .int .i64 mi, .int .i64 se, .int .i64 me, .int .u32 (c : Nat), .int .i64 p, .int .i64 z, .bool wd, .bool lt] 30))
  have HM := Lib.hid (Whole.new (w.alloc (.cells #[.string s, .int .i64 y, .int .i64 mo, .int .i64 d, .int .i64 h, .int .i64 mi, .int .i64 se, .int .i64 me, .int .u32 (c : Nat), .int .i64 p, .int .i64 z, .bool wd, .bool lt] 26)) 28 #[.string s, .int .i64 y, .int .i64 mo, .int .i64 d, .int .i64 h, .int .i64 mi, .int .i64 se, .int .i64 me, .int .u32 (c : Nat), .int .i64 p, .int .i64 z, .bool wd, .bool lt] (b := w.heap.size + 1) (by simp))
  have h0 := HM.out.cell 0
  have h1 := HM.out.cell 1
  have h2 := HM.out.cell 2
  have h3 := HM.out.cell 3
  have h4 := HM.out.cell 4
  have h5 := HM.out.cell 5
  have h6 := HM.out.cell 6
  have h7 := HM.out.cell 7
  have h8 := HM.out.cell 8
  have h9 := HM.out.cell 9
  have h10 := HM.out.cell 10
  have h11 := HM.out.cell 11
  have h12 := HM.out.cell 12
  simp at h0 h1 h2 h3 h4 h5 h6 h7 h8 h9 h10 h11 h12
  go_enter Tryd.func7, Tryd.ntmps7
  go_wp2
  simp [bodyPost, results, Tryd.results7, go_sem]
  exact HB0.out
end Go.Proofs.YtdmglpnieiiigaaDoor
