/- The writer's Clone. -/
import Derived.Test.YthpbiakjkmhfeaaP4
import Derived.Deep.RegionLaw
namespace Go.Proofs.Ythpbiakjkmhfeaa
open Go.RowKit

/-- A writer of its own, with the same bits. -/
def Clond (w : World) (base : Nat) (D : List UInt8) (L N : Nat) (e : Ending) (w' : World) : Prop :=
  ∃ g' A' c', e = .returned (.pointer (some ⟨g', 0, none⟩)) ∧ Wr w' base g' A' c' D L N ∧ Below w.heap.size w w' ∧ w.heap.size ≤ g' ∧ ∀ k, A'.map (·.block) = some k → w.heap.size ≤ k
set_option maxHeartbeats 4000000 in
theorem wclone_any (base g : Nat) (A : Option Addr) (c : Nat) (D : List UInt8) (L N : Nat) (w : World) (hW : Wr w base g A c D L N) (hD : D.length ≤ 1000000000) (hbs : base ≤ w.heap.size) :
    Calls Try.prog 16 #[.pointer (some ⟨g, 0, none⟩)] w (Clond w base D L N) := by
  have c0 := hW.2.1.cell 0
  have c1 := hW.2.1.cell 1
  have c2 := hW.2.1.cell 2
  have HL := Lib.hid hW.1
  have HG := Lib.hid (show Whole w.drew g 48 #[.slice A D.length c, .int .u64 (L : Nat), .int .i64 (N : Nat)] from hW.2.1)
  have HC := Lib.hid (clone_any A D.length c D _ w.drew (show Bs w.drew _ A D.length D from Bs.of_own hW.2.2) (by omega))
  clear hW
  go_enter Try.func16, Try.ntmps16
  go_wp2
  go_region_law (first
    | (go_simp
       go_at_call 26
       refine HC.out.mono ?_
       rintro e wx ⟨A', c', rfl, ho, hb⟩
       have HGx := Lib.hid (HG.out.below' hb)
       have q0 := HGx.out.cell 0
       have q1 := HGx.out.cell 1
       have q2 := HGx.out.cell 2
       have HO := Lib.hid ho
       have HBx := Lib.hid hb
       clear ho hb))
  all_goals
    go_wp2
    go_ret
    have hz : w.heap.size ≤ wx.heap.size := HBx.out.size
    refine ⟨wx.heap.size, A', c', rfl, ⟨HL.out, Whole.new _ _ _ rfl, World.ownsRow.alloc (own_mono HO.out (by simpa using hbs)) _⟩, ?_, hz, fun k hk => ?_⟩
    · exact (((Below.refl w.heap.size w).drew).trans HBx.out).alloc hz _
    · have h := HO.out.lt k (by
        cases A' with
        | none => cases hk
        | some a => exact hk)
      exact h.1
end Go.Proofs.Ythpbiakjkmhfeaa
