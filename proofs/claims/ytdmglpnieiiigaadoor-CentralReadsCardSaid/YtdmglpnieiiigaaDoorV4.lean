/- Try of a header. -/
import Derived.Test.YtdmglpnieiiigaaDoorV3w
import Derived.Recover
import Derived.Defers
namespace Go.Proofs.YtdmglpnieiiigaaDoor
open Go.RowKit

def CloH (R : World → World → Prop) (base pv pb : Nat) (w : World) (cs : Array Value) (e : Ending) (w' : World) : Prop :=
  e = .returned (.tuple #[]) ∧ Whole w' pv 28 cs ∧ Whole w' pb 4 #[.bool false] ∧ (∀ k t cs, base ≤ k → k ≠ pv → k ≠ pb → Whole w k t cs → Whole w' k t cs) ∧ ∃ w1, R w w1 ∧ Below base w1 w'
set_option maxRecDepth 100000 in
set_option maxHeartbeats 4000000 in
theorem hclo_ret (k : FuncId) (caps : Array Value) (s : ByteArray) (y mo d h mi se me c p z : Int) (wd lt : Bool) (pl : Int) (base pf pv pb : Nat) (w : World) (R : World → World → Prop) {v : Value}
    (hcf : ∀ w, (callFunc k caps).run Tryd.prog w = .ok (.enter k caps) w) (h0 : Whole w pf 49 #[.func (.func k) #[] caps]) (h1 : Whole w pv 28 #[.string ⟨#[]⟩, .int .i64 0, .int .i64 0, .int .i64 0, .int .i64 0, .int .i64 0, .int .i64 0, .int .i64 0, .int .u32 0, .int .i64 0, .int .i64 0, .bool false, .bool false, .int .i64 0]) (h2 : Whole w pb 4 #[v]) (hv : base ≤ pv) (hb : base ≤ pb) (hne : pv ≠ pb) (hK : Keep base R)
    (hh : Calls Tryd.prog k caps w fun e w' => e = .returned (.agg #[.string s, .int .i64 y, .int .i64 mo, .int .i64 d, .int .i64 h, .int .i64 mi, .int .i64 se, .int .i64 me, .int .u32 c, .int .i64 p, .int .i64 z, .bool wd, .bool lt, .int .i64 pl]) ∧ R w w') :
    Calls Tryd.prog 35 #[.pointer (some ⟨pf, 0, none⟩), .pointer (some ⟨pv, 0, none⟩), .pointer (some ⟨pb, 0, none⟩)] w (CloH R base pv pb w #[.string s, .int .i64 y, .int .i64 mo, .int .i64 d, .int .i64 h, .int .i64 mi, .int .i64 se, .int .i64 me, .int .u32 c, .int .i64 p, .int .i64 z, .bool wd, .bool lt, .int .i64 pl]) := by
  have hnp := hne
  have hne : ∀ w, (binOp .neq 49 (.func (.func k) #[] caps) .nilFunc).run Tryd.prog w = .ok (.bool true) w := fun _ => rfl
  have H := Lib.hid hh
  clear hh
  have c0 := h0.cell 0
  have f0 := h0.free 0
  go_enter Tryd.func35, Tryd.ntmps35
  go_wp2_with fail
  refine H.out.mono ?_
  rintro e w1 ⟨rfl, hR⟩
  have HR := Lib.hid hR
  have K1 := Lib.hid ((hK _ _ hR).2 _ _ _ hv h1)
  have K2 := Lib.hid ((hK _ _ hR).2 _ _ _ hb h2)
  have KK : Hid (∀ k t cs, base ≤ k → k ≠ pv → k ≠ pb → Whole w k t cs → Whole w1 k t cs) := Lib.hid (fun k t cs hk _ _ hw => (hK _ _ hR).2 _ _ _ hk hw)
  have HB := Lib.hid (Below.refl base w1)
  have v0 := K1.out.cell 0
  have v1 := K1.out.cell 1
  have v2 := K1.out.cell 2
  have v3 := K1.out.cell 3
  have v4 := K1.out.cell 4
  have v5 := K1.out.cell 5
  have v6 := K1.out.cell 6
  have v7 := K1.out.cell 7
  have v8 := K1.out.cell 8
  have v9 := K1.out.cell 9
  have v10 := K1.out.cell 10
  have v11 := K1.out.cell 11
  have v12 := K1.out.cell 12
  have v13 := K1.out.cell 13
  simp at v0 v1 v2 v3 v4 v5 v6 v7 v8 v9 v10 v11 v12 v13
  have g0 := K1.out.free 0
  have g1 := K1.out.free 1
  have g2 := K1.out.free 2
  have g3 := K1.out.free 3
  have g4 := K1.out.free 4
  have g5 := K1.out.free 5
  have g6 := K1.out.free 6
  have g7 := K1.out.free 7
  have g8 := K1.out.free 8
  have g9 := K1.out.free 9
  have g10 := K1.out.free 10
  have g11 := K1.out.free 11
  have g12 := K1.out.free 12
  have g13 := K1.out.free 13
  have c2 := K2.out.cell 0
  have f2 := K2.out.free 0
  have hlv := K1.out.lt
  have hlb := K2.out.lt
  have HBB := Lib.hid hb
  have HV := Lib.hid hv
  have HNP := Lib.hid hnp
  clear hR hK hb hv c0 f0
  go_wp2
  clear v0 g0 v1 g1 v2 g2 v3 g3 v4 g4 v5 g5 v6 g6 v7 g7 v8 g8 v9 g9 v10 g10 v11 g11 v12 g12 v13 g13 c2 f2 hlv hlb
  obtain ⟨x0, hw⟩ : ∃ x, (w1.setCell ⟨pv, 0, none⟩ (.string s)) = x := ⟨_, rfl⟩
  rw [hw]
  have K1 : Hid (Whole x0 pv 28 #[.string s, .int .i64 0, .int .i64 0, .int .i64 0, .int .i64 0, .int .i64 0, .int .i64 0, .int .i64 0, .int .u32 0, .int .i64 0, .int .i64 0, .bool false, .bool false, .int .i64 0]) := Lib.hid (hw ▸ K1.out.put 0 (.string s) rfl)
  have K2 : Hid (Whole x0 pb 4 #[v]) := Lib.hid (hw ▸ K2.out.other (p := ⟨pv, 0, none⟩) (by show pb ≠ pv; exact fun e => HNP.out e.symm) (.string s))
  have KK : Hid (∀ k t cs, base ≤ k → k ≠ pv → k ≠ pb → Whole w k t cs → Whole x0 k t cs) := Lib.hid (fun k t cs hk a b hq => hw ▸ (KK.out k t cs hk a b hq).other (p := ⟨pv, 0, none⟩) (by show k ≠ pv; exact a) (.string s))
  have HB : Hid (Below base w1 x0) := Lib.hid (hw ▸ HB.out.setCell (p := ⟨pv, 0, none⟩) (by show base ≤ pv; exact HV.out) (.string s))
  clear hw
  obtain ⟨x1, hw⟩ : ∃ x, (x0.setCell ⟨pv, 1, none⟩ (.int .i64 y)) = x := ⟨_, rfl⟩
  rw [hw]
  have K1 : Hid (Whole x1 pv 28 #[.string s, .int .i64 y, .int .i64 0, .int .i64 0, .int .i64 0, .int .i64 0, .int .i64 0, .int .i64 0, .int .u32 0, .int .i64 0, .int .i64 0, .bool false, .bool false, .int .i64 0]) := Lib.hid (hw ▸ K1.out.put 1 (.int .i64 y) rfl)
  have K2 : Hid (Whole x1 pb 4 #[v]) := Lib.hid (hw ▸ K2.out.other (p := ⟨pv, 1, none⟩) (by show pb ≠ pv; exact fun e => HNP.out e.symm) (.int .i64 y))
  have KK : Hid (∀ k t cs, base ≤ k → k ≠ pv → k ≠ pb → Whole w k t cs → Whole x1 k t cs) := Lib.hid (fun k t cs hk a b hq => hw ▸ (KK.out k t cs hk a b hq).other (p := ⟨pv, 1, none⟩) (by show k ≠ pv; exact a) (.int .i64 y))
  have HB : Hid (Below base w1 x1) := Lib.hid (hw ▸ HB.out.setCell (p := ⟨pv, 1, none⟩) (by show base ≤ pv; exact HV.out) (.int .i64 y))
  clear hw
  obtain ⟨x2, hw⟩ : ∃ x, (x1.setCell ⟨pv, 2, none⟩ (.int .i64 mo)) = x := ⟨_, rfl⟩
  rw [hw]
  have K1 : Hid (Whole x2 pv 28 #[.string s, .int .i64 y, .int .i64 mo, .int .i64 0, .int .i64 0, .int .i64 0, .int .i64 0, .int .i64 0, .int .u32 0, .int .i64 0, .int .i64 0, .bool false, .bool false, .int .i64 0]) := Lib.hid (hw ▸ K1.out.put 2 (.int .i64 mo) rfl)
  have K2 : Hid (Whole x2 pb 4 #[v]) := Lib.hid (hw ▸ K2.out.other (p := ⟨pv, 2, none⟩) (by show pb ≠ pv; exact fun e => HNP.out e.symm) (.int .i64 mo))
  have KK : Hid (∀ k t cs, base ≤ k → k ≠ pv → k ≠ pb → Whole w k t cs → Whole x2 k t cs) := Lib.hid (fun k t cs hk a b hq => hw ▸ (KK.out k t cs hk a b hq).other (p := ⟨pv, 2, none⟩) (by show k ≠ pv; exact a) (.int .i64 mo))
  have HB : Hid (Below base w1 x2) := Lib.hid (hw ▸ HB.out.setCell (p := ⟨pv, 2, none⟩) (by show base ≤ pv; exact HV.out) (.int .i64 mo))
  clear hw
  obtain ⟨x3, hw⟩ : ∃ x, (x2.setCell ⟨pv, 3, none⟩ (.int .i64 d)) = x := ⟨_, rfl⟩
  rw [hw]
  have K1 : Hid (Whole x3 pv 28 #[.string s, .int .i64 y, .int .i64 mo, .int .i64 d, .int .i64 0, .int .i64 0, .int .i64 0, .int .i64 0, .int .u32 0, .int .i64 0, .int .i64 0, .bool false, .bool false, .int .i64 0]) := Lib.hid (hw ▸ K1.out.put 3 (.int .i64 d) rfl)
  have K2 : Hid (Whole x3 pb 4 #[v]) := Lib.hid (hw ▸ K2.out.other (p := ⟨pv, 3, none⟩) (by show pb ≠ pv; exact fun e => HNP.out e.symm) (.int .i64 d))
  have KK : Hid (∀ k t cs, base ≤ k → k ≠ pv → k ≠ pb → Whole w k t cs → Whole x3 k t cs) := Lib.hid (fun k t cs hk a b hq => hw ▸ (KK.out k t cs hk a b hq).other (p := ⟨pv, 3, none⟩) (by show k ≠ pv; exact a) (.int .i64 d))
  have HB : Hid (Below base w1 x3) := Lib.hid (hw ▸ HB.out.setCell (p := ⟨pv, 3, none⟩) (by show base ≤ pv; exact HV.out) (.int .i64 d))
  clear hw
  obtain ⟨x4, hw⟩ : ∃ x, (x3.setCell ⟨pv, 4, none⟩ (.int .i64 h)) = x := ⟨_, rfl⟩
  rw [hw]
  have K1 : Hid (Whole x4 pv 28 #[.string s, .int .i64 y, .int .i64 mo, .int .i64 d, .int .i64 h, .int .i64 0, .int .i64 0, .int .i64 0, .int .u32 0, .int .i64 0, .int .i64 0, .bool false, .bool false, .int .i64 0]) := Lib.hid (hw ▸ K1.out.put 4 (.int .i64 h) rfl)
  have K2 : Hid (Whole x4 pb 4 #[v]) := Lib.hid (hw ▸ K2.out.other (p := ⟨pv, 4, none⟩) (by show pb ≠ pv; exact fun e => HNP.out e.symm) (.int .i64 h))
  have KK : Hid (∀ k t cs, base ≤ k → k ≠ pv → k ≠ pb → Whole w k t cs → Whole x4 k t cs) := Lib.hid (fun k t cs hk a b hq => hw ▸ (KK.out k t cs hk a b hq).other (p := ⟨pv, 4, none⟩) (by show k ≠ pv; exact a) (.int .i64 h))
  have HB : Hid (Below base w1 x4) := Lib.hid (hw ▸ HB.out.setCell (p := ⟨pv, 4, none⟩) (by show base ≤ pv; exact HV.out) (.int .i64 h))
  clear hw
  obtain ⟨x5, hw⟩ : ∃ x, (x4.setCell ⟨pv, 5, none⟩ (.int .i64 mi)) = x := ⟨_, rfl⟩
  rw [hw]
  have K1 : Hid (Whole x5 pv 28 #[.string s, .int .i64 y, .int .i64 mo, .int .i64 d, .int .i64 h, .int .i64 mi, .int .i64 0, .int .i64 0, .int .u32 0, .int .i64 0, .int .i64 0, .bool false, .bool false, .int .i64 0]) := Lib.hid (hw ▸ K1.out.put 5 (.int .i64 mi) rfl)
  have K2 : Hid (Whole x5 pb 4 #[v]) := Lib.hid (hw ▸ K2.out.other (p := ⟨pv, 5, none⟩) (by show pb ≠ pv; exact fun e => HNP.out e.symm) (.int .i64 mi))
  have KK : Hid (∀ k t cs, base ≤ k → k ≠ pv → k ≠ pb → Whole w k t cs → Whole x5 k t cs) := Lib.hid (fun k t cs hk a b hq => hw ▸ (KK.out k t cs hk a b hq).other (p := ⟨pv, 5, none⟩) (by show k ≠ pv; exact a) (.int .i64 mi))
  have HB : Hid (Below base w1 x5) := Lib.hid (hw ▸ HB.out.setCell (p := ⟨pv, 5, none⟩) (by show base ≤ pv; exact HV.out) (.int .i64 mi))
  clear hw
  obtain ⟨x6, hw⟩ : ∃ x, (x5.setCell ⟨pv, 6, none⟩ (.int .i64 se)) = x := ⟨_, rfl⟩
  rw [hw]
  have K1 : Hid (Whole x6 pv 28 #[.string s, .int .i64 y, .int .i64 mo, .int .i64 d, .int .i64 h, .int .i64 mi, .int .i64 se, .int .i64 0, .int .u32 0, .int .i64 0, .int .i64 0, .bool false, .bool false, .int .i64 0]) := Lib.hid (hw ▸ K1.out.put 6 (.int .i64 se) rfl)
  have K2 : Hid (Whole x6 pb 4 #[v]) := Lib.hid (hw ▸ K2.out.other (p := ⟨pv, 6, none⟩) (by show pb ≠ pv; exact fun e => HNP.out e.symm) (.int .i64 se))
  have KK : Hid (∀ k t cs, base ≤ k → k ≠ pv → k ≠ pb → Whole w k t cs → Whole x6 k t cs) := Lib.hid (fun k t cs hk a b hq => hw ▸ (KK.out k t cs hk a b hq).other (p := ⟨pv, 6, none⟩) (by show k ≠ pv; exact a) (.int .i64 se))
  have HB : Hid (Below base w1 x6) := Lib.hid (hw ▸ HB.out.setCell (p := ⟨pv, 6, none⟩) (by show base ≤ pv; exact HV.out) (.int .i64 se))
  clear hw
  obtain ⟨x7, hw⟩ : ∃ x, (x6.setCell ⟨pv, 7, none⟩ (.int .i64 me)) = x := ⟨_, rfl⟩
  rw [hw]
  have K1 : Hid (Whole x7 pv 28 #[.string s, .int .i64 y, .int .i64 mo, .int .i64 d, .int .i64 h, .int .i64 mi, .int .i64 se, .int .i64 me, .int .u32 0, .int .i64 0, .int .i64 0, .bool false, .bool false, .int .i64 0]) := Lib.hid (hw ▸ K1.out.put 7 (.int .i64 me) rfl)
  have K2 : Hid (Whole x7 pb 4 #[v]) := Lib.hid (hw ▸ K2.out.other (p := ⟨pv, 7, none⟩) (by show pb ≠ pv; exact fun e => HNP.out e.symm) (.int .i64 me))
  have KK : Hid (∀ k t cs, base ≤ k → k ≠ pv → k ≠ pb → Whole w k t cs → Whole x7 k t cs) := Lib.hid (fun k t cs hk a b hq => hw ▸ (KK.out k t cs hk a b hq).other (p := ⟨pv, 7, none⟩) (by show k ≠ pv; exact a) (.int .i64 me))
  have HB : Hid (Below base w1 x7) := Lib.hid (hw ▸ HB.out.setCell (p := ⟨pv, 7, none⟩) (by show base ≤ pv; exact HV.out) (.int .i64 me))
  clear hw
  obtain ⟨x8, hw⟩ : ∃ x, (x7.setCell ⟨pv, 8, none⟩ (.int .u32 c)) = x := ⟨_, rfl⟩
  rw [hw]
  have K1 : Hid (Whole x8 pv 28 #[.string s, .int .i64 y, .int .i64 mo, .int .i64 d, .int .i64 h, .int .i64 mi, .int .i64 se, .int .i64 me, .int .u32 c, .int .i64 0, .int .i64 0, .bool false, .bool false, .int .i64 0]) := Lib.hid (hw ▸ K1.out.put 8 (.int .u32 c) rfl)
  have K2 : Hid (Whole x8 pb 4 #[v]) := Lib.hid (hw ▸ K2.out.other (p := ⟨pv, 8, none⟩) (by show pb ≠ pv; exact fun e => HNP.out e.symm) (.int .u32 c))
  have KK : Hid (∀ k t cs, base ≤ k → k ≠ pv → k ≠ pb → Whole w k t cs → Whole x8 k t cs) := Lib.hid (fun k t cs hk a b hq => hw ▸ (KK.out k t cs hk a b hq).other (p := ⟨pv, 8, none⟩) (by show k ≠ pv; exact a) (.int .u32 c))
  have HB : Hid (Below base w1 x8) := Lib.hid (hw ▸ HB.out.setCell (p := ⟨pv, 8, none⟩) (by show base ≤ pv; exact HV.out) (.int .u32 c))
  clear hw
  obtain ⟨x9, hw⟩ : ∃ x, (x8.setCell ⟨pv, 9, none⟩ (.int .i64 p)) = x := ⟨_, rfl⟩
  rw [hw]
  have K1 : Hid (Whole x9 pv 28 #[.string s, .int .i64 y, .int .i64 mo, .int .i64 d, .int .i64 h, .int .i64 mi, .int .i64 se, .int .i64 me, .int .u32 c, .int .i64 p, .int .i64 0, .bool false, .bool false, .int .i64 0]) := Lib.hid (hw ▸ K1.out.put 9 (.int .i64 p) rfl)
  have K2 : Hid (Whole x9 pb 4 #[v]) := Lib.hid (hw ▸ K2.out.other (p := ⟨pv, 9, none⟩) (by show pb ≠ pv; exact fun e => HNP.out e.symm) (.int .i64 p))
  have KK : Hid (∀ k t cs, base ≤ k → k ≠ pv → k ≠ pb → Whole w k t cs → Whole x9 k t cs) := Lib.hid (fun k t cs hk a b hq => hw ▸ (KK.out k t cs hk a b hq).other (p := ⟨pv, 9, none⟩) (by show k ≠ pv; exact a) (.int .i64 p))
  have HB : Hid (Below base w1 x9) := Lib.hid (hw ▸ HB.out.setCell (p := ⟨pv, 9, none⟩) (by show base ≤ pv; exact HV.out) (.int .i64 p))
  clear hw
  obtain ⟨x10, hw⟩ : ∃ x, (x9.setCell ⟨pv, 10, none⟩ (.int .i64 z)) = x := ⟨_, rfl⟩
  rw [hw]
  have K1 : Hid (Whole x10 pv 28 #[.string s, .int .i64 y, .int .i64 mo, .int .i64 d, .int .i64 h, .int .i64 mi, .int .i64 se, .int .i64 me, .int .u32 c, .int .i64 p, .int .i64 z, .bool false, .bool false, .int .i64 0]) := Lib.hid (hw ▸ K1.out.put 10 (.int .i64 z) rfl)
  have K2 : Hid (Whole x10 pb 4 #[v]) := Lib.hid (hw ▸ K2.out.other (p := ⟨pv, 10, none⟩) (by show pb ≠ pv; exact fun e => HNP.out e.symm) (.int .i64 z))
  have KK : Hid (∀ k t cs, base ≤ k → k ≠ pv → k ≠ pb → Whole w k t cs → Whole x10 k t cs) := Lib.hid (fun k t cs hk a b hq => hw ▸ (KK.out k t cs hk a b hq).other (p := ⟨pv, 10, none⟩) (by show k ≠ pv; exact a) (.int .i64 z))
  have HB : Hid (Below base w1 x10) := Lib.hid (hw ▸ HB.out.setCell (p := ⟨pv, 10, none⟩) (by show base ≤ pv; exact HV.out) (.int .i64 z))
  clear hw
  obtain ⟨x11, hw⟩ : ∃ x, (x10.setCell ⟨pv, 11, none⟩ (.bool wd)) = x := ⟨_, rfl⟩
  rw [hw]
  have K1 : Hid (Whole x11 pv 28 #[.string s, .int .i64 y, .int .i64 mo, .int .i64 d, .int .i64 h, .int .i64 mi, .int .i64 se, .int .i64 me, .int .u32 c, .int .i64 p, .int .i64 z, .bool wd, .bool false, .int .i64 0]) := Lib.hid (hw ▸ K1.out.put 11 (.bool wd) rfl)
  have K2 : Hid (Whole x11 pb 4 #[v]) := Lib.hid (hw ▸ K2.out.other (p := ⟨pv, 11, none⟩) (by show pb ≠ pv; exact fun e => HNP.out e.symm) (.bool wd))
  have KK : Hid (∀ k t cs, base ≤ k → k ≠ pv → k ≠ pb → Whole w k t cs → Whole x11 k t cs) := Lib.hid (fun k t cs hk a b hq => hw ▸ (KK.out k t cs hk a b hq).other (p := ⟨pv, 11, none⟩) (by show k ≠ pv; exact a) (.bool wd))
  have HB : Hid (Below base w1 x11) := Lib.hid (hw ▸ HB.out.setCell (p := ⟨pv, 11, none⟩) (by show base ≤ pv; exact HV.out) (.bool wd))
  clear hw
  obtain ⟨x12, hw⟩ : ∃ x, (x11.setCell ⟨pv, 12, none⟩ (.bool lt)) = x := ⟨_, rfl⟩
  rw [hw]
  have K1 : Hid (Whole x12 pv 28 #[.string s, .int .i64 y, .int .i64 mo, .int .i64 d, .int .i64 h, .int .i64 mi, .int .i64 se, .int .i64 me, .int .u32 c, .int .i64 p, .int .i64 z, .bool wd, .bool lt, .int .i64 0]) := Lib.hid (hw ▸ K1.out.put 12 (.bool lt) rfl)
  have K2 : Hid (Whole x12 pb 4 #[v]) := Lib.hid (hw ▸ K2.out.other (p := ⟨pv, 12, none⟩) (by show pb ≠ pv; exact fun e => HNP.out e.symm) (.bool lt))
  have KK : Hid (∀ k t cs, base ≤ k → k ≠ pv → k ≠ pb → Whole w k t cs → Whole x12 k t cs) := Lib.hid (fun k t cs hk a b hq => hw ▸ (KK.out k t cs hk a b hq).other (p := ⟨pv, 12, none⟩) (by show k ≠ pv; exact a) (.bool lt))
  have HB : Hid (Below base w1 x12) := Lib.hid (hw ▸ HB.out.setCell (p := ⟨pv, 12, none⟩) (by show base ≤ pv; exact HV.out) (.bool lt))
  clear hw
  obtain ⟨x13, hw⟩ : ∃ x, (x12.setCell ⟨pv, 13, none⟩ (.int .i64 pl)) = x := ⟨_, rfl⟩
  rw [hw]
  have K1 : Hid (Whole x13 pv 28 #[.string s, .int .i64 y, .int .i64 mo, .int .i64 d, .int .i64 h, .int .i64 mi, .int .i64 se, .int .i64 me, .int .u32 c, .int .i64 p, .int .i64 z, .bool wd, .bool lt, .int .i64 pl]) := Lib.hid (hw ▸ K1.out.put 13 (.int .i64 pl) rfl)
  have K2 : Hid (Whole x13 pb 4 #[v]) := Lib.hid (hw ▸ K2.out.other (p := ⟨pv, 13, none⟩) (by show pb ≠ pv; exact fun e => HNP.out e.symm) (.int .i64 pl))
  have KK : Hid (∀ k t cs, base ≤ k → k ≠ pv → k ≠ pb → Whole w k t cs → Whole x13 k t cs) := Lib.hid (fun k t cs hk a b hq => hw ▸ (KK.out k t cs hk a b hq).other (p := ⟨pv, 13, none⟩) (by show k ≠ pv; exact a) (.int .i64 pl))
  have HB : Hid (Below base w1 x13) := Lib.hid (hw ▸ HB.out.setCell (p := ⟨pv, 13, none⟩) (by show base ≤ pv; exact HV.out) (.int .i64 pl))
  clear hw
  go_end0
  exact ⟨rfl, K1.out.other (p := ⟨pb, 0, none⟩) (by show pv ≠ pb; exact HNP.out) _, K2.out.put 0 (.bool false) rfl, fun k t cs hk a b hq => (KK.out k t cs hk a b hq).other (p := ⟨pb, 0, none⟩) (by show k ≠ pb; exact b) _, w1, HR.out, HB.out.setCell (p := ⟨pb, 0, none⟩) (by show base ≤ pb; exact HBB.out) _⟩
set_option maxRecDepth 100000 in
theorem hclo_throw (k : FuncId) (caps : Array Value) (ch : List PanicEntry) (pf pv pb : Nat) (w : World) (R : World → World → Prop)
    (hcf : ∀ w, (callFunc k caps).run Tryd.prog w = .ok (.enter k caps) w) (h0 : Whole w pf 49 #[.func (.func k) #[] caps])
    (h : Calls Tryd.prog k caps w fun e w' => e = .panicked ch ∧ R w w') :
    Calls Tryd.prog 35 #[.pointer (some ⟨pf, 0, none⟩), .pointer (some ⟨pv, 0, none⟩), .pointer (some ⟨pb, 0, none⟩)] w fun e w' => e = .panicked ch ∧ R w w' := by
  have hne : ∀ w, (binOp .neq 49 (.func (.func k) #[] caps) .nilFunc).run Tryd.prog w = .ok (.bool true) w := fun _ => rfl
  have H := Lib.hid h
  clear h
  have c0 := h0.cell 0
  have f0 := h0.free 0
  go_enter Tryd.func35, Tryd.ntmps35
  go_wp2_with fail
  refine H.out.mono ?_
  rintro e w1 ⟨rfl, hR⟩
  have HR := Lib.hid hR
  clear hR
  go_wp2
  simp [bodyPost]
  exact HR.out
def TryH (R : World → World → Prop) (w : World) (cs : Array Value) (c : Int) (e : Ending) (w' : World) : Prop := e = .returned (.tuple #[.agg cs, .int .i64 c]) ∧ ∃ w1 w2, Below w.heap.size w w1 ∧ R w1 w2 ∧ Below w.heap.size w2 w'
set_option maxRecDepth 100000 in
set_option maxHeartbeats 4000000 in
theorem tryH_ret (k : FuncId) (caps : Array Value) (s : ByteArray) (y mo d h mi se me c p z : Int) (wd lt : Bool) (pl : Int) (w : World) (R : World → World → Prop)
    (hcf : ∀ w, (callFunc k caps).run Tryd.prog w = .ok (.enter k caps) w) (hK : Keep w.heap.size R) (hh : ∀ w', Below w.heap.size w w' → Calls Tryd.prog k caps w' fun e w'' => e = .returned (.agg #[.string s, .int .i64 y, .int .i64 mo, .int .i64 d, .int .i64 h, .int .i64 mi, .int .i64 se, .int .i64 me, .int .u32 c, .int .i64 p, .int .i64 z, .bool wd, .bool lt, .int .i64 pl]) ∧ R w' w'') :
    Calls Tryd.prog 15 #[.func (.func k) #[] caps] w (TryH R w #[.string s, .int .i64 y, .int .i64 mo, .int .i64 d, .int .i64 h, .int .i64 mi, .int .i64 se, .int .i64 me, .int .u32 c, .int .i64 p, .int .i64 z, .bool wd, .bool lt, .int .i64 pl] 0) := by
  have hmf : ∀ (fn : Fn) (first cap : Array Value) (w : World), (Instr.makeFunc fn first cap).run Tryd.prog w = .ok (.func fn first cap) w := fun _ _ _ _ => rfl
  have H := Lib.hid hh
  have HK := Lib.hid hK
  clear hh hK
  go_enter Tryd.func15, Tryd.ntmps15
  go_wp2_with fail
  obtain ⟨W, hW⟩ : ∃ W, ((((w.alloc (.cells #[.func (.func k) #[] caps] 49)).alloc (.cells #[.string ⟨#[]⟩, .int .i64 0, .int .i64 0, .int .i64 0, .int .i64 0, .int .i64 0, .int .i64 0, .int .i64 0, .int .u32 0, .int .i64 0, .int .i64 0, .bool false, .bool false, .int .i64 0] 28)).alloc (.cells #[.string ⟨#[]⟩, .int .i64 0, .int .i64 0, .int .i64 0, .int .i64 0, .int .i64 0, .int .i64 0, .int .i64 0, .int .u32 0, .int .i64 0, .int .i64 0, .bool false, .bool false, .int .i64 0] 28)).alloc (.cells #[.string ⟨#[]⟩, .int .i64 0, .int .i64 0, .int .i64 0, .int .i64 0, .int .i64 0, .int .i64 0, .int .i64 0, .int .u32 0, .int .i64 0, .int .i64 0, .bool false, .bool false, .int .i64 0] 28)).alloc (.cells #[.bool true] 4) = W := ⟨_, rfl⟩
  have hs : W.heap.size = w.heap.size + 5 := by rw [← hW]; simp
  have b0 : Whole W w.heap.size 49 #[.func (.func k) #[] caps] := hW ▸ ((((Whole.new w 49 _ rfl).alloc _).alloc _).alloc _).alloc _
  have b1 : Whole W (w.heap.size + 1) 28 #[.string ⟨#[]⟩, .int .i64 0, .int .i64 0, .int .i64 0, .int .i64 0, .int .i64 0, .int .i64 0, .int .i64 0, .int .u32 0, .int .i64 0, .int .i64 0, .bool false, .bool false, .int .i64 0] := hW ▸ (((Whole.new _ 28 _ (by simp)).alloc _).alloc _).alloc _
  have b2 : Whole W (w.heap.size + 2) 28 #[.string ⟨#[]⟩, .int .i64 0, .int .i64 0, .int .i64 0, .int .i64 0, .int .i64 0, .int .i64 0, .int .i64 0, .int .u32 0, .int .i64 0, .int .i64 0, .bool false, .bool false, .int .i64 0] := hW ▸ ((Whole.new _ 28 _ (by simp)).alloc _).alloc _
  have b3 : Whole W (w.heap.size + 3) 28 #[.string ⟨#[]⟩, .int .i64 0, .int .i64 0, .int .i64 0, .int .i64 0, .int .i64 0, .int .i64 0, .int .i64 0, .int .u32 0, .int .i64 0, .int .i64 0, .bool false, .bool false, .int .i64 0] := hW ▸ (Whole.new _ 28 _ (by simp)).alloc _
  have b4 : Whole W (w.heap.size + 4) 4 #[.bool true] := hW ▸ Whole.new _ 4 _ (by simp)
  have bB : Below w.heap.size w W := hW ▸ (((((Below.refl _ _).alloc (Nat.le_refl _) _).alloc (by simp) _).alloc (by simp; omega) _).alloc (by simp; omega) _).alloc (by simp; omega) _
  rw [hW, show w.heap.size + 1 + 1 + 1 + 1 = w.heap.size + 4 from rfl, show w.heap.size + 1 + 1 + 1 = w.heap.size + 3 from rfl, show w.heap.size + 1 + 1 = w.heap.size + 2 from rfl]
  clear hW
  have B0 := Lib.hid b0
  have B1 := Lib.hid b1
  have B2 := Lib.hid b2
  have B3 := Lib.hid b3
  have B4 := Lib.hid b4
  have BB := Lib.hid bB
  have HS := Lib.hid hs
  clear b0 b1 b2 b3 b4 bB hs
  refine (catch_ret _ W (fun w' => Whole w' (w.heap.size + 2) 28 #[.string s, .int .i64 y, .int .i64 mo, .int .i64 d, .int .i64 h, .int .i64 mi, .int .i64 se, .int .i64 me, .int .u32 c, .int .i64 p, .int .i64 z, .bool wd, .bool lt, .int .i64 pl] ∧ Whole w' (w.heap.size + 4) 4 #[.bool false] ∧ Whole w' (w.heap.size + 1) 28 #[.string ⟨#[]⟩, .int .i64 0, .int .i64 0, .int .i64 0, .int .i64 0, .int .i64 0, .int .i64 0, .int .i64 0, .int .u32 0, .int .i64 0, .int .i64 0, .bool false, .bool false, .int .i64 0] ∧ ∃ w1, R (W.alloc (.cells #[.int .i64 0] 34)) w1 ∧ Below w.heap.size w1 w')
    (call_ret 35 _ _ _ (fun _ => by kernel_rfl) ((hclo_ret k caps s y mo d h mi se me c p z wd lt pl w.heap.size w.heap.size (w.heap.size + 2) (w.heap.size + 4) _ R hcf (B0.out.alloc _) (B2.out.alloc _) (B4.out.alloc _) (by omega) (by omega) (by omega) HK.out (H.out _ (BB.out.alloc (by rw [HS.out]; omega) _))).mono ?_))).mono ?_
  · rintro e w' ⟨rfl, k1, k2, k3, w1, k4, k5⟩
    exact ⟨rfl, k3 W.heap.size 34 _ (by rw [HS.out]; omega) (by rw [HS.out]; omega) (by rw [HS.out]; omega) (Whole.new W 34 #[.int .i64 0] rfl), k1, k2, k3 (w.heap.size + 1) _ _ (by omega) (by omega) (by omega) (B1.out.alloc _), w1, k4, k5⟩
  rintro e w2 ⟨rfl, w', ⟨q1, q2, q3, w1, hR, q4⟩, hA⟩
  have hsz := (HK.out _ _ hR).1
  have hsz2 := q4.size
  have HRR := Lib.hid hR
  have HB := Lib.hid (hA.below q4 (by rw [HS.out]; omega) (by simp [HS.out] at hsz; omega))
  have m1 := Lib.hid (hA.whole q1 (by rw [HS.out]; omega))
  have m2 := Lib.hid (hA.whole q2 (by rw [HS.out]; omega))
  have m3 := Lib.hid (hA.whole q3 (by rw [HS.out]; omega))
  clear q1 q2 q3 q4 hA hR hsz hsz2
  have v0 := m1.out.cell 0
  have v1 := m1.out.cell 1
  have v2 := m1.out.cell 2
  have v3 := m1.out.cell 3
  have v4 := m1.out.cell 4
  have v5 := m1.out.cell 5
  have v6 := m1.out.cell 6
  have v7 := m1.out.cell 7
  have v8 := m1.out.cell 8
  have v9 := m1.out.cell 9
  have v10 := m1.out.cell 10
  have v11 := m1.out.cell 11
  have v12 := m1.out.cell 12
  have v13 := m1.out.cell 13
  simp at v0 v1 v2 v3 v4 v5 v6 v7 v8 v9 v10 v11 v12 v13
  have u0 := m3.out.cell 0
  have u1 := m3.out.cell 1
  have u2 := m3.out.cell 2
  have u3 := m3.out.cell 3
  have u4 := m3.out.cell 4
  have u5 := m3.out.cell 5
  have u6 := m3.out.cell 6
  have u7 := m3.out.cell 7
  have u8 := m3.out.cell 8
  have u9 := m3.out.cell 9
  have u10 := m3.out.cell 10
  have u11 := m3.out.cell 11
  have u12 := m3.out.cell 12
  have u13 := m3.out.cell 13
  simp at u0 u1 u2 u3 u4 u5 u6 u7 u8 u9 u10 u11 u12 u13
  have g0 := m3.out.free 0
  have g1 := m3.out.free 1
  have g2 := m3.out.free 2
  have g3 := m3.out.free 3
  have g4 := m3.out.free 4
  have g5 := m3.out.free 5
  have g6 := m3.out.free 6
  have g7 := m3.out.free 7
  have g8 := m3.out.free 8
  have g9 := m3.out.free 9
  have g10 := m3.out.free 10
  have g11 := m3.out.free 11
  have g12 := m3.out.free 12
  have g13 := m3.out.free 13
  have c2 := m2.out.cell 0
  have f2 := m2.out.free 0
  simp at c2
  have hl1 := m1.out.lt
  have hl3 := m3.out.lt
  go_wp2
  clear v0 u0 g0 v1 u1 g1 v2 u2 g2 v3 u3 g3 v4 u4 g4 v5 u5 g5 v6 u6 g6 v7 u7 g7 v8 u8 g8 v9 u9 g9 v10 u10 g10 v11 u11 g11 v12 u12 g12 v13 u13 g13 c2 f2 hl1 hl3
  obtain ⟨x0, hw⟩ : ∃ x, (w2.setCell ⟨w.heap.size + 1, 0, none⟩ (.string s)) = x := ⟨_, rfl⟩
  rw [hw]
  have m3 : Hid (Whole x0 (w.heap.size + 1) 28 #[.string s, .int .i64 0, .int .i64 0, .int .i64 0, .int .i64 0, .int .i64 0, .int .i64 0, .int .i64 0, .int .u32 0, .int .i64 0, .int .i64 0, .bool false, .bool false, .int .i64 0]) := Lib.hid (hw ▸ m3.out.put 0 (.string s) rfl)
  have HB : Hid (Below w.heap.size w1 x0) := Lib.hid (hw ▸ HB.out.setCell (p := ⟨w.heap.size + 1, 0, none⟩) (by show w.heap.size ≤ w.heap.size + 1; omega) (.string s))
  clear hw
  obtain ⟨x1, hw⟩ : ∃ x, (x0.setCell ⟨w.heap.size + 1, 1, none⟩ (.int .i64 y)) = x := ⟨_, rfl⟩
  rw [hw]
  have m3 : Hid (Whole x1 (w.heap.size + 1) 28 #[.string s, .int .i64 y, .int .i64 0, .int .i64 0, .int .i64 0, .int .i64 0, .int .i64 0, .int .i64 0, .int .u32 0, .int .i64 0, .int .i64 0, .bool false, .bool false, .int .i64 0]) := Lib.hid (hw ▸ m3.out.put 1 (.int .i64 y) rfl)
  have HB : Hid (Below w.heap.size w1 x1) := Lib.hid (hw ▸ HB.out.setCell (p := ⟨w.heap.size + 1, 1, none⟩) (by show w.heap.size ≤ w.heap.size + 1; omega) (.int .i64 y))
  clear hw
  obtain ⟨x2, hw⟩ : ∃ x, (x1.setCell ⟨w.heap.size + 1, 2, none⟩ (.int .i64 mo)) = x := ⟨_, rfl⟩
  rw [hw]
  have m3 : Hid (Whole x2 (w.heap.size + 1) 28 #[.string s, .int .i64 y, .int .i64 mo, .int .i64 0, .int .i64 0, .int .i64 0, .int .i64 0, .int .i64 0, .int .u32 0, .int .i64 0, .int .i64 0, .bool false, .bool false, .int .i64 0]) := Lib.hid (hw ▸ m3.out.put 2 (.int .i64 mo) rfl)
  have HB : Hid (Below w.heap.size w1 x2) := Lib.hid (hw ▸ HB.out.setCell (p := ⟨w.heap.size + 1, 2, none⟩) (by show w.heap.size ≤ w.heap.size + 1; omega) (.int .i64 mo))
  clear hw
  obtain ⟨x3, hw⟩ : ∃ x, (x2.setCell ⟨w.heap.size + 1, 3, none⟩ (.int .i64 d)) = x := ⟨_, rfl⟩
  rw [hw]
  have m3 : Hid (Whole x3 (w.heap.size + 1) 28 #[.string s, .int .i64 y, .int .i64 mo, .int .i64 d, .int .i64 0, .int .i64 0, .int .i64 0, .int .i64 0, .int .u32 0, .int .i64 0, .int .i64 0, .bool false, .bool false, .int .i64 0]) := Lib.hid (hw ▸ m3.out.put 3 (.int .i64 d) rfl)
  have HB : Hid (Below w.heap.size w1 x3) := Lib.hid (hw ▸ HB.out.setCell (p := ⟨w.heap.size + 1, 3, none⟩) (by show w.heap.size ≤ w.heap.size + 1; omega) (.int .i64 d))
  clear hw
  obtain ⟨x4, hw⟩ : ∃ x, (x3.setCell ⟨w.heap.size + 1, 4, none⟩ (.int .i64 h)) = x := ⟨_, rfl⟩
  rw [hw]
  have m3 : Hid (Whole x4 (w.heap.size + 1) 28 #[.string s, .int .i64 y, .int .i64 mo, .int .i64 d, .int .i64 h, .int .i64 0, .int .i64 0, .int .i64 0, .int .u32 0, .int .i64 0, .int .i64 0, .bool false, .bool false, .int .i64 0]) := Lib.hid (hw ▸ m3.out.put 4 (.int .i64 h) rfl)
  have HB : Hid (Below w.heap.size w1 x4) := Lib.hid (hw ▸ HB.out.setCell (p := ⟨w.heap.size + 1, 4, none⟩) (by show w.heap.size ≤ w.heap.size + 1; omega) (.int .i64 h))
  clear hw
  obtain ⟨x5, hw⟩ : ∃ x, (x4.setCell ⟨w.heap.size + 1, 5, none⟩ (.int .i64 mi)) = x := ⟨_, rfl⟩
  rw [hw]
  have m3 : Hid (Whole x5 (w.heap.size + 1) 28 #[.string s, .int .i64 y, .int .i64 mo, .int .i64 d, .int .i64 h, .int .i64 mi, .int .i64 0, .int .i64 0, .int .u32 0, .int .i64 0, .int .i64 0, .bool false, .bool false, .int .i64 0]) := Lib.hid (hw ▸ m3.out.put 5 (.int .i64 mi) rfl)
  have HB : Hid (Below w.heap.size w1 x5) := Lib.hid (hw ▸ HB.out.setCell (p := ⟨w.heap.size + 1, 5, none⟩) (by show w.heap.size ≤ w.heap.size + 1; omega) (.int .i64 mi))
  clear hw
  obtain ⟨x6, hw⟩ : ∃ x, (x5.setCell ⟨w.heap.size + 1, 6, none⟩ (.int .i64 se)) = x := ⟨_, rfl⟩
  rw [hw]
  have m3 : Hid (Whole x6 (w.heap.size + 1) 28 #[.string s, .int .i64 y, .int .i64 mo, .int .i64 d, .int .i64 h, .int .i64 mi, .int .i64 se, .int .i64 0, .int .u32 0, .int .i64 0, .int .i64 0, .bool false, .bool false, .int .i64 0]) := Lib.hid (hw ▸ m3.out.put 6 (.int .i64 se) rfl)
  have HB : Hid (Below w.heap.size w1 x6) := Lib.hid (hw ▸ HB.out.setCell (p := ⟨w.heap.size + 1, 6, none⟩) (by show w.heap.size ≤ w.heap.size + 1; omega) (.int .i64 se))
  clear hw
  obtain ⟨x7, hw⟩ : ∃ x, (x6.setCell ⟨w.heap.size + 1, 7, none⟩ (.int .i64 me)) = x := ⟨_, rfl⟩
  rw [hw]
  have m3 : Hid (Whole x7 (w.heap.size + 1) 28 #[.string s, .int .i64 y, .int .i64 mo, .int .i64 d, .int .i64 h, .int .i64 mi, .int .i64 se, .int .i64 me, .int .u32 0, .int .i64 0, .int .i64 0, .bool false, .bool false, .int .i64 0]) := Lib.hid (hw ▸ m3.out.put 7 (.int .i64 me) rfl)
  have HB : Hid (Below w.heap.size w1 x7) := Lib.hid (hw ▸ HB.out.setCell (p := ⟨w.heap.size + 1, 7, none⟩) (by show w.heap.size ≤ w.heap.size + 1; omega) (.int .i64 me))
  clear hw
  obtain ⟨x8, hw⟩ : ∃ x, (x7.setCell ⟨w.heap.size + 1, 8, none⟩ (.int .u32 c)) = x := ⟨_, rfl⟩
  rw [hw]
  have m3 : Hid (Whole x8 (w.heap.size + 1) 28 #[.string s, .int .i64 y, .int .i64 mo, .int .i64 d, .int .i64 h, .int .i64 mi, .int .i64 se, .int .i64 me, .int .u32 c, .int .i64 0, .int .i64 0, .bool false, .bool false, .int .i64 0]) := Lib.hid (hw ▸ m3.out.put 8 (.int .u32 c) rfl)
  have HB : Hid (Below w.heap.size w1 x8) := Lib.hid (hw ▸ HB.out.setCell (p := ⟨w.heap.size + 1, 8, none⟩) (by show w.heap.size ≤ w.heap.size + 1; omega) (.int .u32 c))
  clear hw
  obtain ⟨x9, hw⟩ : ∃ x, (x8.setCell ⟨w.heap.size + 1, 9, none⟩ (.int .i64 p)) = x := ⟨_, rfl⟩
  rw [hw]
  have m3 : Hid (Whole x9 (w.heap.size + 1) 28 #[.string s, .int .i64 y, .int .i64 mo, .int .i64 d, .int .i64 h, .int .i64 mi, .int .i64 se, .int .i64 me, .int .u32 c, .int .i64 p, .int .i64 0, .bool false, .bool false, .int .i64 0]) := Lib.hid (hw ▸ m3.out.put 9 (.int .i64 p) rfl)
  have HB : Hid (Below w.heap.size w1 x9) := Lib.hid (hw ▸ HB.out.setCell (p := ⟨w.heap.size + 1, 9, none⟩) (by show w.heap.size ≤ w.heap.size + 1; omega) (.int .i64 p))
  clear hw
  obtain ⟨x10, hw⟩ : ∃ x, (x9.setCell ⟨w.heap.size + 1, 10, none⟩ (.int .i64 z)) = x := ⟨_, rfl⟩
  rw [hw]
  have m3 : Hid (Whole x10 (w.heap.size + 1) 28 #[.string s, .int .i64 y, .int .i64 mo, .int .i64 d, .int .i64 h, .int .i64 mi, .int .i64 se, .int .i64 me, .int .u32 c, .int .i64 p, .int .i64 z, .bool false, .bool false, .int .i64 0]) := Lib.hid (hw ▸ m3.out.put 10 (.int .i64 z) rfl)
  have HB : Hid (Below w.heap.size w1 x10) := Lib.hid (hw ▸ HB.out.setCell (p := ⟨w.heap.size + 1, 10, none⟩) (by show w.heap.size ≤ w.heap.size + 1; omega) (.int .i64 z))
  clear hw
  obtain ⟨x11, hw⟩ : ∃ x, (x10.setCell ⟨w.heap.size + 1, 11, none⟩ (.bool wd)) = x := ⟨_, rfl⟩
  rw [hw]
  have m3 : Hid (Whole x11 (w.heap.size + 1) 28 #[.string s, .int .i64 y, .int .i64 mo, .int .i64 d, .int .i64 h, .int .i64 mi, .int .i64 se, .int .i64 me, .int .u32 c, .int .i64 p, .int .i64 z, .bool wd, .bool false, .int .i64 0]) := Lib.hid (hw ▸ m3.out.put 11 (.bool wd) rfl)
  have HB : Hid (Below w.heap.size w1 x11) := Lib.hid (hw ▸ HB.out.setCell (p := ⟨w.heap.size + 1, 11, none⟩) (by show w.heap.size ≤ w.heap.size + 1; omega) (.bool wd))
  clear hw
  obtain ⟨x12, hw⟩ : ∃ x, (x11.setCell ⟨w.heap.size + 1, 12, none⟩ (.bool lt)) = x := ⟨_, rfl⟩
  rw [hw]
  have m3 : Hid (Whole x12 (w.heap.size + 1) 28 #[.string s, .int .i64 y, .int .i64 mo, .int .i64 d, .int .i64 h, .int .i64 mi, .int .i64 se, .int .i64 me, .int .u32 c, .int .i64 p, .int .i64 z, .bool wd, .bool lt, .int .i64 0]) := Lib.hid (hw ▸ m3.out.put 12 (.bool lt) rfl)
  have HB : Hid (Below w.heap.size w1 x12) := Lib.hid (hw ▸ HB.out.setCell (p := ⟨w.heap.size + 1, 12, none⟩) (by show w.heap.size ≤ w.heap.size + 1; omega) (.bool lt))
  clear hw
  obtain ⟨x13, hw⟩ : ∃ x, (x12.setCell ⟨w.heap.size + 1, 13, none⟩ (.int .i64 pl)) = x := ⟨_, rfl⟩
  rw [hw]
  have m3 : Hid (Whole x13 (w.heap.size + 1) 28 #[.string s, .int .i64 y, .int .i64 mo, .int .i64 d, .int .i64 h, .int .i64 mi, .int .i64 se, .int .i64 me, .int .u32 c, .int .i64 p, .int .i64 z, .bool wd, .bool lt, .int .i64 pl]) := Lib.hid (hw ▸ m3.out.put 13 (.int .i64 pl) rfl)
  have HB : Hid (Below w.heap.size w1 x13) := Lib.hid (hw ▸ HB.out.setCell (p := ⟨w.heap.size + 1, 13, none⟩) (by show w.heap.size ≤ w.heap.size + 1; omega) (.int .i64 pl))
  clear hw
  have q0 := m3.out.cell 0
  have q1 := m3.out.cell 1
  have q2 := m3.out.cell 2
  have q3 := m3.out.cell 3
  have q4 := m3.out.cell 4
  have q5 := m3.out.cell 5
  have q6 := m3.out.cell 6
  have q7 := m3.out.cell 7
  have q8 := m3.out.cell 8
  have q9 := m3.out.cell 9
  have q10 := m3.out.cell 10
  have q11 := m3.out.cell 11
  have q12 := m3.out.cell 12
  have q13 := m3.out.cell 13
  simp at q0 q1 q2 q3 q4 q5 q6 q7 q8 q9 q10 q11 q12 q13
  simp [bodyPost, results, Tryd.results15, go_sem, q0, q1, q2, q3, q4, q5, q6, q7, q8, q9, q10, q11, q12, q13]
  exact ⟨rfl, _, w1, BB.out.alloc (by rw [HS.out]; omega) _, HRR.out, HB.out⟩
set_option maxRecDepth 100000 in
set_option maxHeartbeats 4000000 in
theorem tryH_throw (k : FuncId) (caps : Array Value) (c : Int) (w : World) (R : World → World → Prop)
    (hcf : ∀ w, (callFunc k caps).run Tryd.prog w = .ok (.enter k caps) w) (hK : Keep w.heap.size R) (h : ∀ w', Below w.heap.size w w' → Calls Tryd.prog k caps w' fun e w'' => e = .panicked [{ v := fault c, recovered := false }] ∧ R w' w'') :
    Calls Tryd.prog 15 #[.func (.func k) #[] caps] w (TryH R w #[.string ⟨#[]⟩, .int .i64 0, .int .i64 0, .int .i64 0, .int .i64 0, .int .i64 0, .int .i64 0, .int .i64 0, .int .u32 0, .int .i64 0, .int .i64 0, .bool false, .bool false, .int .i64 0] c) := by
  have hmf : ∀ (fn : Fn) (first cap : Array Value) (w : World), (Instr.makeFunc fn first cap).run Tryd.prog w = .ok (.func fn first cap) w := fun _ _ _ _ => rfl
  have H := Lib.hid h
  have HK := Lib.hid hK
  clear h hK
  go_enter Tryd.func15, Tryd.ntmps15
  go_wp2_with fail
  obtain ⟨W, hW⟩ : ∃ W, ((((w.alloc (.cells #[.func (.func k) #[] caps] 49)).alloc (.cells #[.string ⟨#[]⟩, .int .i64 0, .int .i64 0, .int .i64 0, .int .i64 0, .int .i64 0, .int .i64 0, .int .i64 0, .int .u32 0, .int .i64 0, .int .i64 0, .bool false, .bool false, .int .i64 0] 28)).alloc (.cells #[.string ⟨#[]⟩, .int .i64 0, .int .i64 0, .int .i64 0, .int .i64 0, .int .i64 0, .int .i64 0, .int .i64 0, .int .u32 0, .int .i64 0, .int .i64 0, .bool false, .bool false, .int .i64 0] 28)).alloc (.cells #[.string ⟨#[]⟩, .int .i64 0, .int .i64 0, .int .i64 0, .int .i64 0, .int .i64 0, .int .i64 0, .int .i64 0, .int .u32 0, .int .i64 0, .int .i64 0, .bool false, .bool false, .int .i64 0] 28)).alloc (.cells #[.bool true] 4) = W := ⟨_, rfl⟩
  have hs : W.heap.size = w.heap.size + 5 := by rw [← hW]; simp
  have b0 : Whole W w.heap.size 49 #[.func (.func k) #[] caps] := hW ▸ ((((Whole.new w 49 _ rfl).alloc _).alloc _).alloc _).alloc _
  have b1 : Whole W (w.heap.size + 1) 28 #[.string ⟨#[]⟩, .int .i64 0, .int .i64 0, .int .i64 0, .int .i64 0, .int .i64 0, .int .i64 0, .int .i64 0, .int .u32 0, .int .i64 0, .int .i64 0, .bool false, .bool false, .int .i64 0] := hW ▸ (((Whole.new _ 28 _ (by simp)).alloc _).alloc _).alloc _
  have b2 : Whole W (w.heap.size + 2) 28 #[.string ⟨#[]⟩, .int .i64 0, .int .i64 0, .int .i64 0, .int .i64 0, .int .i64 0, .int .i64 0, .int .i64 0, .int .u32 0, .int .i64 0, .int .i64 0, .bool false, .bool false, .int .i64 0] := hW ▸ ((Whole.new _ 28 _ (by simp)).alloc _).alloc _
  have b3 : Whole W (w.heap.size + 3) 28 #[.string ⟨#[]⟩, .int .i64 0, .int .i64 0, .int .i64 0, .int .i64 0, .int .i64 0, .int .i64 0, .int .i64 0, .int .u32 0, .int .i64 0, .int .i64 0, .bool false, .bool false, .int .i64 0] := hW ▸ (Whole.new _ 28 _ (by simp)).alloc _
  have b4 : Whole W (w.heap.size + 4) 4 #[.bool true] := hW ▸ Whole.new _ 4 _ (by simp)
  have bB : Below w.heap.size w W := hW ▸ (((((Below.refl _ _).alloc (Nat.le_refl _) _).alloc (by simp) _).alloc (by simp; omega) _).alloc (by simp; omega) _).alloc (by simp; omega) _
  rw [hW, show w.heap.size + 1 + 1 + 1 + 1 = w.heap.size + 4 from rfl, show w.heap.size + 1 + 1 + 1 = w.heap.size + 3 from rfl, show w.heap.size + 1 + 1 = w.heap.size + 2 from rfl]
  clear hW
  have B0 := Lib.hid b0
  have B1 := Lib.hid b1
  have B2 := Lib.hid b2
  have B3 := Lib.hid b3
  have B4 := Lib.hid b4
  have BB := Lib.hid bB
  have HS := Lib.hid hs
  clear b0 b1 b2 b3 b4 bB hs
  refine (catch_throw _ c W (fun w' => Whole w' (w.heap.size + 3) 28 #[.string ⟨#[]⟩, .int .i64 0, .int .i64 0, .int .i64 0, .int .i64 0, .int .i64 0, .int .i64 0, .int .i64 0, .int .u32 0, .int .i64 0, .int .i64 0, .bool false, .bool false, .int .i64 0] ∧ Whole w' (w.heap.size + 4) 4 #[.bool true] ∧ Whole w' (w.heap.size + 1) 28 #[.string ⟨#[]⟩, .int .i64 0, .int .i64 0, .int .i64 0, .int .i64 0, .int .i64 0, .int .i64 0, .int .i64 0, .int .u32 0, .int .i64 0, .int .i64 0, .bool false, .bool false, .int .i64 0] ∧ ∃ w1, R (W.alloc (.cells #[.int .i64 0] 34)) w1 ∧ Below w.heap.size w1 w')
    (call_throw 35 _ _ _ _ (fun _ => by kernel_rfl) ((hclo_throw k caps _ w.heap.size (w.heap.size + 2) (w.heap.size + 4) _ R hcf (B0.out.alloc _) (H.out _ (BB.out.alloc (by rw [HS.out]; omega) _))).mono ?_))).mono ?_
  · rintro e w' ⟨rfl, hb⟩
    have kp := (HK.out _ _ hb).2
    exact ⟨rfl, kp _ _ _ (by rw [HS.out]; omega) (Whole.new W 34 #[.int .i64 0] rfl), kp _ _ _ (by omega) (B3.out.alloc _), kp _ _ _ (by omega) (B4.out.alloc _), kp _ _ _ (by omega) (B1.out.alloc _), w', hb, Below.refl _ _⟩
  rintro e w2 ⟨rfl, w', ⟨q1, q2, q3, w1, hR, q4⟩, hA⟩
  have hsz := (HK.out _ _ hR).1
  have hsz2 := q4.size
  have HRR := Lib.hid hR
  have HB := Lib.hid (hA.below q4 (by rw [HS.out]; omega) (by simp [HS.out] at hsz; omega))
  have m1 := Lib.hid (hA.whole q1 (by rw [HS.out]; omega))
  have m2 := Lib.hid (hA.whole q2 (by rw [HS.out]; omega))
  have m3 := Lib.hid (hA.whole q3 (by rw [HS.out]; omega))
  clear q1 q2 q3 q4 hA hR hsz hsz2
  have v0 := m1.out.cell 0
  have v1 := m1.out.cell 1
  have v2 := m1.out.cell 2
  have v3 := m1.out.cell 3
  have v4 := m1.out.cell 4
  have v5 := m1.out.cell 5
  have v6 := m1.out.cell 6
  have v7 := m1.out.cell 7
  have v8 := m1.out.cell 8
  have v9 := m1.out.cell 9
  have v10 := m1.out.cell 10
  have v11 := m1.out.cell 11
  have v12 := m1.out.cell 12
  have v13 := m1.out.cell 13
  simp at v0 v1 v2 v3 v4 v5 v6 v7 v8 v9 v10 v11 v12 v13
  have u0 := m3.out.cell 0
  have u1 := m3.out.cell 1
  have u2 := m3.out.cell 2
  have u3 := m3.out.cell 3
  have u4 := m3.out.cell 4
  have u5 := m3.out.cell 5
  have u6 := m3.out.cell 6
  have u7 := m3.out.cell 7
  have u8 := m3.out.cell 8
  have u9 := m3.out.cell 9
  have u10 := m3.out.cell 10
  have u11 := m3.out.cell 11
  have u12 := m3.out.cell 12
  have u13 := m3.out.cell 13
  simp at u0 u1 u2 u3 u4 u5 u6 u7 u8 u9 u10 u11 u12 u13
  have g0 := m3.out.free 0
  have g1 := m3.out.free 1
  have g2 := m3.out.free 2
  have g3 := m3.out.free 3
  have g4 := m3.out.free 4
  have g5 := m3.out.free 5
  have g6 := m3.out.free 6
  have g7 := m3.out.free 7
  have g8 := m3.out.free 8
  have g9 := m3.out.free 9
  have g10 := m3.out.free 10
  have g11 := m3.out.free 11
  have g12 := m3.out.free 12
  have g13 := m3.out.free 13
  have c2 := m2.out.cell 0
  have f2 := m2.out.free 0
  simp at c2
  have hl1 := m1.out.lt
  have hl3 := m3.out.lt
  go_wp2
  clear v0 u0 g0 v1 u1 g1 v2 u2 g2 v3 u3 g3 v4 u4 g4 v5 u5 g5 v6 u6 g6 v7 u7 g7 v8 u8 g8 v9 u9 g9 v10 u10 g10 v11 u11 g11 v12 u12 g12 v13 u13 g13 c2 f2 hl1 hl3
  obtain ⟨x0, hw⟩ : ∃ x, (w2.setCell ⟨w.heap.size + 1, 0, none⟩ (.string ⟨#[]⟩)) = x := ⟨_, rfl⟩
  rw [hw]
  have m3 : Hid (Whole x0 (w.heap.size + 1) 28 #[.string ⟨#[]⟩, .int .i64 0, .int .i64 0, .int .i64 0, .int .i64 0, .int .i64 0, .int .i64 0, .int .i64 0, .int .u32 0, .int .i64 0, .int .i64 0, .bool false, .bool false, .int .i64 0]) := Lib.hid (hw ▸ m3.out.put 0 (.string ⟨#[]⟩) rfl)
  have HB : Hid (Below w.heap.size w1 x0) := Lib.hid (hw ▸ HB.out.setCell (p := ⟨w.heap.size + 1, 0, none⟩) (by show w.heap.size ≤ w.heap.size + 1; omega) (.string ⟨#[]⟩))
  clear hw
  obtain ⟨x1, hw⟩ : ∃ x, (x0.setCell ⟨w.heap.size + 1, 1, none⟩ (.int .i64 0)) = x := ⟨_, rfl⟩
  rw [hw]
  have m3 : Hid (Whole x1 (w.heap.size + 1) 28 #[.string ⟨#[]⟩, .int .i64 0, .int .i64 0, .int .i64 0, .int .i64 0, .int .i64 0, .int .i64 0, .int .i64 0, .int .u32 0, .int .i64 0, .int .i64 0, .bool false, .bool false, .int .i64 0]) := Lib.hid (hw ▸ m3.out.put 1 (.int .i64 0) rfl)
  have HB : Hid (Below w.heap.size w1 x1) := Lib.hid (hw ▸ HB.out.setCell (p := ⟨w.heap.size + 1, 1, none⟩) (by show w.heap.size ≤ w.heap.size + 1; omega) (.int .i64 0))
  clear hw
  obtain ⟨x2, hw⟩ : ∃ x, (x1.setCell ⟨w.heap.size + 1, 2, none⟩ (.int .i64 0)) = x := ⟨_, rfl⟩
  rw [hw]
  have m3 : Hid (Whole x2 (w.heap.size + 1) 28 #[.string ⟨#[]⟩, .int .i64 0, .int .i64 0, .int .i64 0, .int .i64 0, .int .i64 0, .int .i64 0, .int .i64 0, .int .u32 0, .int .i64 0, .int .i64 0, .bool false, .bool false, .int .i64 0]) := Lib.hid (hw ▸ m3.out.put 2 (.int .i64 0) rfl)
  have HB : Hid (Below w.heap.size w1 x2) := Lib.hid (hw ▸ HB.out.setCell (p := ⟨w.heap.size + 1, 2, none⟩) (by show w.heap.size ≤ w.heap.size + 1; omega) (.int .i64 0))
  clear hw
  obtain ⟨x3, hw⟩ : ∃ x, (x2.setCell ⟨w.heap.size + 1, 3, none⟩ (.int .i64 0)) = x := ⟨_, rfl⟩
  rw [hw]
  have m3 : Hid (Whole x3 (w.heap.size + 1) 28 #[.string ⟨#[]⟩, .int .i64 0, .int .i64 0, .int .i64 0, .int .i64 0, .int .i64 0, .int .i64 0, .int .i64 0, .int .u32 0, .int .i64 0, .int .i64 0, .bool false, .bool false, .int .i64 0]) := Lib.hid (hw ▸ m3.out.put 3 (.int .i64 0) rfl)
  have HB : Hid (Below w.heap.size w1 x3) := Lib.hid (hw ▸ HB.out.setCell (p := ⟨w.heap.size + 1, 3, none⟩) (by show w.heap.size ≤ w.heap.size + 1; omega) (.int .i64 0))
  clear hw
  obtain ⟨x4, hw⟩ : ∃ x, (x3.setCell ⟨w.heap.size + 1, 4, none⟩ (.int .i64 0)) = x := ⟨_, rfl⟩
  rw [hw]
  have m3 : Hid (Whole x4 (w.heap.size + 1) 28 #[.string ⟨#[]⟩, .int .i64 0, .int .i64 0, .int .i64 0, .int .i64 0, .int .i64 0, .int .i64 0, .int .i64 0, .int .u32 0, .int .i64 0, .int .i64 0, .bool false, .bool false, .int .i64 0]) := Lib.hid (hw ▸ m3.out.put 4 (.int .i64 0) rfl)
  have HB : Hid (Below w.heap.size w1 x4) := Lib.hid (hw ▸ HB.out.setCell (p := ⟨w.heap.size + 1, 4, none⟩) (by show w.heap.size ≤ w.heap.size + 1; omega) (.int .i64 0))
  clear hw
  obtain ⟨x5, hw⟩ : ∃ x, (x4.setCell ⟨w.heap.size + 1, 5, none⟩ (.int .i64 0)) = x := ⟨_, rfl⟩
  rw [hw]
  have m3 : Hid (Whole x5 (w.heap.size + 1) 28 #[.string ⟨#[]⟩, .int .i64 0, .int .i64 0, .int .i64 0, .int .i64 0, .int .i64 0, .int .i64 0, .int .i64 0, .int .u32 0, .int .i64 0, .int .i64 0, .bool false, .bool false, .int .i64 0]) := Lib.hid (hw ▸ m3.out.put 5 (.int .i64 0) rfl)
  have HB : Hid (Below w.heap.size w1 x5) := Lib.hid (hw ▸ HB.out.setCell (p := ⟨w.heap.size + 1, 5, none⟩) (by show w.heap.size ≤ w.heap.size + 1; omega) (.int .i64 0))
  clear hw
  obtain ⟨x6, hw⟩ : ∃ x, (x5.setCell ⟨w.heap.size + 1, 6, none⟩ (.int .i64 0)) = x := ⟨_, rfl⟩
  rw [hw]
  have m3 : Hid (Whole x6 (w.heap.size + 1) 28 #[.string ⟨#[]⟩, .int .i64 0, .int .i64 0, .int .i64 0, .int .i64 0, .int .i64 0, .int .i64 0, .int .i64 0, .int .u32 0, .int .i64 0, .int .i64 0, .bool false, .bool false, .int .i64 0]) := Lib.hid (hw ▸ m3.out.put 6 (.int .i64 0) rfl)
  have HB : Hid (Below w.heap.size w1 x6) := Lib.hid (hw ▸ HB.out.setCell (p := ⟨w.heap.size + 1, 6, none⟩) (by show w.heap.size ≤ w.heap.size + 1; omega) (.int .i64 0))
  clear hw
  obtain ⟨x7, hw⟩ : ∃ x, (x6.setCell ⟨w.heap.size + 1, 7, none⟩ (.int .i64 0)) = x := ⟨_, rfl⟩
  rw [hw]
  have m3 : Hid (Whole x7 (w.heap.size + 1) 28 #[.string ⟨#[]⟩, .int .i64 0, .int .i64 0, .int .i64 0, .int .i64 0, .int .i64 0, .int .i64 0, .int .i64 0, .int .u32 0, .int .i64 0, .int .i64 0, .bool false, .bool false, .int .i64 0]) := Lib.hid (hw ▸ m3.out.put 7 (.int .i64 0) rfl)
  have HB : Hid (Below w.heap.size w1 x7) := Lib.hid (hw ▸ HB.out.setCell (p := ⟨w.heap.size + 1, 7, none⟩) (by show w.heap.size ≤ w.heap.size + 1; omega) (.int .i64 0))
  clear hw
  obtain ⟨x8, hw⟩ : ∃ x, (x7.setCell ⟨w.heap.size + 1, 8, none⟩ (.int .u32 0)) = x := ⟨_, rfl⟩
  rw [hw]
  have m3 : Hid (Whole x8 (w.heap.size + 1) 28 #[.string ⟨#[]⟩, .int .i64 0, .int .i64 0, .int .i64 0, .int .i64 0, .int .i64 0, .int .i64 0, .int .i64 0, .int .u32 0, .int .i64 0, .int .i64 0, .bool false, .bool false, .int .i64 0]) := Lib.hid (hw ▸ m3.out.put 8 (.int .u32 0) rfl)
  have HB : Hid (Below w.heap.size w1 x8) := Lib.hid (hw ▸ HB.out.setCell (p := ⟨w.heap.size + 1, 8, none⟩) (by show w.heap.size ≤ w.heap.size + 1; omega) (.int .u32 0))
  clear hw
  obtain ⟨x9, hw⟩ : ∃ x, (x8.setCell ⟨w.heap.size + 1, 9, none⟩ (.int .i64 0)) = x := ⟨_, rfl⟩
  rw [hw]
  have m3 : Hid (Whole x9 (w.heap.size + 1) 28 #[.string ⟨#[]⟩, .int .i64 0, .int .i64 0, .int .i64 0, .int .i64 0, .int .i64 0, .int .i64 0, .int .i64 0, .int .u32 0, .int .i64 0, .int .i64 0, .bool false, .bool false, .int .i64 0]) := Lib.hid (hw ▸ m3.out.put 9 (.int .i64 0) rfl)
  have HB : Hid (Below w.heap.size w1 x9) := Lib.hid (hw ▸ HB.out.setCell (p := ⟨w.heap.size + 1, 9, none⟩) (by show w.heap.size ≤ w.heap.size + 1; omega) (.int .i64 0))
  clear hw
  obtain ⟨x10, hw⟩ : ∃ x, (x9.setCell ⟨w.heap.size + 1, 10, none⟩ (.int .i64 0)) = x := ⟨_, rfl⟩
  rw [hw]
  have m3 : Hid (Whole x10 (w.heap.size + 1) 28 #[.string ⟨#[]⟩, .int .i64 0, .int .i64 0, .int .i64 0, .int .i64 0, .int .i64 0, .int .i64 0, .int .i64 0, .int .u32 0, .int .i64 0, .int .i64 0, .bool false, .bool false, .int .i64 0]) := Lib.hid (hw ▸ m3.out.put 10 (.int .i64 0) rfl)
  have HB : Hid (Below w.heap.size w1 x10) := Lib.hid (hw ▸ HB.out.setCell (p := ⟨w.heap.size + 1, 10, none⟩) (by show w.heap.size ≤ w.heap.size + 1; omega) (.int .i64 0))
  clear hw
  obtain ⟨x11, hw⟩ : ∃ x, (x10.setCell ⟨w.heap.size + 1, 11, none⟩ (.bool false)) = x := ⟨_, rfl⟩
  rw [hw]
  have m3 : Hid (Whole x11 (w.heap.size + 1) 28 #[.string ⟨#[]⟩, .int .i64 0, .int .i64 0, .int .i64 0, .int .i64 0, .int .i64 0, .int .i64 0, .int .i64 0, .int .u32 0, .int .i64 0, .int .i64 0, .bool false, .bool false, .int .i64 0]) := Lib.hid (hw ▸ m3.out.put 11 (.bool false) rfl)
  have HB : Hid (Below w.heap.size w1 x11) := Lib.hid (hw ▸ HB.out.setCell (p := ⟨w.heap.size + 1, 11, none⟩) (by show w.heap.size ≤ w.heap.size + 1; omega) (.bool false))
  clear hw
  obtain ⟨x12, hw⟩ : ∃ x, (x11.setCell ⟨w.heap.size + 1, 12, none⟩ (.bool false)) = x := ⟨_, rfl⟩
  rw [hw]
  have m3 : Hid (Whole x12 (w.heap.size + 1) 28 #[.string ⟨#[]⟩, .int .i64 0, .int .i64 0, .int .i64 0, .int .i64 0, .int .i64 0, .int .i64 0, .int .i64 0, .int .u32 0, .int .i64 0, .int .i64 0, .bool false, .bool false, .int .i64 0]) := Lib.hid (hw ▸ m3.out.put 12 (.bool false) rfl)
  have HB : Hid (Below w.heap.size w1 x12) := Lib.hid (hw ▸ HB.out.setCell (p := ⟨w.heap.size + 1, 12, none⟩) (by show w.heap.size ≤ w.heap.size + 1; omega) (.bool false))
  clear hw
  obtain ⟨x13, hw⟩ : ∃ x, (x12.setCell ⟨w.heap.size + 1, 13, none⟩ (.int .i64 0)) = x := ⟨_, rfl⟩
  rw [hw]
  have m3 : Hid (Whole x13 (w.heap.size + 1) 28 #[.string ⟨#[]⟩, .int .i64 0, .int .i64 0, .int .i64 0, .int .i64 0, .int .i64 0, .int .i64 0, .int .i64 0, .int .u32 0, .int .i64 0, .int .i64 0, .bool false, .bool false, .int .i64 0]) := Lib.hid (hw ▸ m3.out.put 13 (.int .i64 0) rfl)
  have HB : Hid (Below w.heap.size w1 x13) := Lib.hid (hw ▸ HB.out.setCell (p := ⟨w.heap.size + 1, 13, none⟩) (by show w.heap.size ≤ w.heap.size + 1; omega) (.int .i64 0))
  clear hw
  have q0 := m3.out.cell 0
  have q1 := m3.out.cell 1
  have q2 := m3.out.cell 2
  have q3 := m3.out.cell 3
  have q4 := m3.out.cell 4
  have q5 := m3.out.cell 5
  have q6 := m3.out.cell 6
  have q7 := m3.out.cell 7
  have q8 := m3.out.cell 8
  have q9 := m3.out.cell 9
  have q10 := m3.out.cell 10
  have q11 := m3.out.cell 11
  have q12 := m3.out.cell 12
  have q13 := m3.out.cell 13
  simp at q0 q1 q2 q3 q4 q5 q6 q7 q8 q9 q10 q11 q12 q13
  simp [bodyPost, results, Tryd.results15, go_sem, q0, q1, q2, q3, q4, q5, q6, q7, q8, q9, q10, q11, q12, q13]
  exact ⟨rfl, _, w1, BB.out.alloc (by rw [HS.out]; omega) _, HRR.out, HB.out⟩
end Go.Proofs.YtdmglpnieiiigaaDoor
