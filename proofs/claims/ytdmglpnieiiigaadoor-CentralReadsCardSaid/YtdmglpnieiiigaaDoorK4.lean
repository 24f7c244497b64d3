/- The record of an entry. -/
import Derived.Test.YtdmglpnieiiigaaDoorK1
import Derived.Test.YtdmglpnieiiigaaDoorH2
import Derived.Test.YtdmglpnieiiigaaDoorStrApp
import Derived.Test.YtdmglpnieiiigaaDoorFree
import Derived.BigQuiet
namespace Go.Proofs.YtdmglpnieiiigaaDoor
open Go.RowKit

def EncQ (n : Nat) (bs : List UInt8) (w : World) (e : Ending) (w' : World) : Prop := ∃ A c', e = .returned (.tuple #[.slice A n c', .int .i64 0]) ∧ Bs w' (fun q => w.heap.size ≤ q) A n bs ∧ Below w.heap.size w w'
set_option maxRecDepth 100000 in
set_option maxHeartbeats 8000000 in
theorem cencode_slim (s : ByteArray) (y mo d h mi se : Int) (me c p z pl DT CK FL : Nat) (lt : Bool) (w : World) (hE : Env w) (hs : s.size ≤ 255) (hc : c < 4294967296) (hk : codeC s (rightB y mo d h mi se) me p z pl = 0) (ht : rightB y mo d h mi se = true) (hD : dateI y mo d = (DT : Nat)) (hC : clockI h mi se = (CK : Nat)) (hF : flagsH s lt = (FL : Nat)) (hD2 : DT < 65536) (hC2 : CK < 65536) (hF2 : FL < 65536) (hp : p ≤ 33554432) (hz : z ≤ 16777216) (hme : me < 65536) (hpl : pl < 4294967296) :
    Calls Tryd.prog 9 #[.agg #[.string s, .int .i64 y, .int .i64 mo, .int .i64 d, .int .i64 h, .int .i64 mi, .int .i64 se, .int .i64 (me : Nat), .int .u32 (c : Nat), .int .i64 (p : Nat), .int .i64 (z : Nat), .bool false, .bool lt, .int .i64 (pl : Nat)]] w (EncQ (46 + s.size) (leB 33639248 4 ++ catK 2 [788, 20, FL, me, CK, DT] ++ catK 4 [c, p, z] ++ catK 2 [s.size, 0, 0, 0, 0] ++ leB 2175008768 4 ++ leB pl 4 ++ s.data.toList) w) := by
  have HV : Hid (∀ w, Calls Tryd.prog 22 #[.agg #[.string s, .int .i64 y, .int .i64 mo, .int .i64 d, .int .i64 h, .int .i64 mi, .int .i64 se, .int .i64 (me : Nat), .int .u32 (c : Nat), .int .i64 (p : Nat), .int .i64 (z : Nat), .bool false, .bool lt]] w fun e w' => e = .returned (.int .i64 20) ∧ Below w.heap.size w w') := Lib.hid (fun w => hversion_any s y mo d h mi se me c p z false lt w)
  have HF : Hid (∀ w, Calls Tryd.prog 23 #[.agg #[.string s, .int .i64 y, .int .i64 mo, .int .i64 d, .int .i64 h, .int .i64 mi, .int .i64 se, .int .i64 (me : Nat), .int .u32 (c : Nat), .int .i64 (p : Nat), .int .i64 (z : Nat), .bool false, .bool lt]] w fun e w' => e = .returned (.int .i64 (FL : Nat)) ∧ Below w.heap.size w w') := Lib.hid (fun w => by
    have := hflags_any s y mo d h mi se me c p z false lt w (by omega)
    rwa [hF] at this)
  have HCk : Hid (∀ w, Env w → Calls Tryd.prog 10 #[.agg #[.string s, .int .i64 y, .int .i64 mo, .int .i64 d, .int .i64 h, .int .i64 mi, .int .i64 se, .int .i64 (me : Nat), .int .u32 (c : Nat), .int .i64 (p : Nat), .int .i64 (z : Nat), .bool false, .bool lt, .int .i64 (pl : Nat)]] w fun e w' => e = .returned (.int .i64 0) ∧ Below w.heap.size w w') := Lib.hid (fun w hE => by
    have := ccheck_any s y mo d h mi se me c p z false lt pl w hE
    rwa [hk] at this)
  have HT : Hid (∀ w, Calls Tryd.prog 20 #[tm y mo d h mi se] w fun e w' => e = .returned (.tuple #[.int .u16 (DT : Nat), .int .u16 (CK : Nat), .int .i64 0]) ∧ Below w.heap.size w w' ) := Lib.hid (fun w => by
    have := encode_right y mo d h mi se w ht
    rwa [hD, hC] at this)
  have HE := Lib.hid hE
  clear hE hk ht hD hC hF
  go_enter Tryd.func9, Tryd.ntmps9
  go_wp2_with fail
  obtain ⟨w0, hw0⟩ : ∃ w0, w.alloc (.cells #[.string s, .int .i64 y, .int .i64 mo, .int .i64 d, .int .i64 h, .int .i64 mi, .int .i64 se, .int .i64 (me : Nat), .int .u32 (c : Nat), .int .i64 (p : Nat), .int .i64 (z : Nat), .bool false, .bool lt, .int .i64 (pl : Nat)] 28) = w0 := ⟨_, rfl⟩
  rw [hw0]
  have HW0 : Hid (Below w.heap.size w w0) := Lib.hid (hw0 ▸ (Below.refl _ _).alloc (Nat.le_refl _) _)
  have HR : Hid (Whole w0 w.heap.size 28 #[.string s, .int .i64 y, .int .i64 mo, .int .i64 d, .int .i64 h, .int .i64 mi, .int .i64 se, .int .i64 (me : Nat), .int .u32 (c : Nat), .int .i64 (p : Nat), .int .i64 (z : Nat), .bool false, .bool lt, .int .i64 (pl : Nat)]) := Lib.hid (hw0 ▸ Whole.new w 28 _ rfl)
  clear hw0
  refine (HCk.out w0 (HE.out.below HW0.out)).mono ?_
  rintro e w1 ⟨rfl, hb1⟩
  have HB1 := Lib.hid (HW0.out.trans (hb1.mono HW0.out.size))
  have HR := Lib.hid (HR.out.below' hb1)
  clear hb1 HCk
  have r1 := HR.out.cell 1
  have r2 := HR.out.cell 2
  have r3 := HR.out.cell 3
  have r4 := HR.out.cell 4
  have r5 := HR.out.cell 5
  have r6 := HR.out.cell 6
  simp at r1 r2 r3 r4 r5 r6
  go_wp2_with fail
  refine (HT.out w1).mono ?_
  rintro e w2 ⟨rfl, hb2⟩
  have HB2 := Lib.hid (HB1.out.trans (hb2.mono HB1.out.size))
  have HR := Lib.hid (HR.out.below' hb2)
  clear hb2 HT r1 r2 r3 r4 r5 r6
  have r9 := HR.out.cell 9
  have r10 := HR.out.cell 10
  have r13 := HR.out.cell 13
  simp at r9 r10 r13
  go_wp2_with fail
  go_quiet (fail)
  obtain ⟨wq, hwq⟩ : ∃ x, w2.drewN nq = x := ⟨_, rfl⟩
  rw [hwq]
  have HB2 : Hid (Below w.heap.size w wq) := Lib.hid (hwq ▸ HB2.out.drewN' nq)
  have HR : Hid (Whole wq w.heap.size 28 #[.string s, .int .i64 y, .int .i64 mo, .int .i64 d, .int .i64 h, .int .i64 mi, .int .i64 se, .int .i64 (me : Nat), .int .u32 (c : Nat), .int .i64 (p : Nat), .int .i64 (z : Nat), .bool false, .bool lt, .int .i64 (pl : Nat)]) := Lib.hid (hwq ▸ HR.out.drewN nq)
  clear hwq r9 r10 r13
  have r11 := HR.out.cell 11
  simp at r11
  go_wp2_with fail
  refine (append_right none 0 0 [] (fun _ => True) 4 33639248 wq (Bs.empty _ _ _) (by omega) (by omega) (by omega) (by omega)).mono ?_
  rintro e w3 ⟨A3, c3, rfl, ho, hb3⟩
  have HO3 := Lib.hid ((Bs.of_own ho).mono fun b h => Nat.le_trans HB2.out.size h)
  have HB3 := Lib.hid (HB2.out.trans (hb3.mono HB2.out.size))
  have HR := Lib.hid (HR.out.below' hb3)
  clear ho hb3 r11
  go_wp2_with fail
  have r0 := fun mm => (HR.out.below' (World.over_below w3 mm)).cell 0
  have r1 := fun mm => (HR.out.below' (World.over_below w3 mm)).cell 1
  have r2 := fun mm => (HR.out.below' (World.over_below w3 mm)).cell 2
  have r3 := fun mm => (HR.out.below' (World.over_below w3 mm)).cell 3
  have r4 := fun mm => (HR.out.below' (World.over_below w3 mm)).cell 4
  have r5 := fun mm => (HR.out.below' (World.over_below w3 mm)).cell 5
  have r6 := fun mm => (HR.out.below' (World.over_below w3 mm)).cell 6
  have r7 := fun mm => (HR.out.below' (World.over_below w3 mm)).cell 7
  have r8 := fun mm => (HR.out.below' (World.over_below w3 mm)).cell 8
  have r9 := fun mm => (HR.out.below' (World.over_below w3 mm)).cell 9
  have r10 := fun mm => (HR.out.below' (World.over_below w3 mm)).cell 10
  have r11 := fun mm => (HR.out.below' (World.over_below w3 mm)).cell 11
  have r12 := fun mm => (HR.out.below' (World.over_below w3 mm)).cell 12
  simp at r0 r1 r2 r3 r4 r5 r6 r7 r8 r9 r10 r11 r12
  refine wp_region_free2 (mk := fun j => [2, 5].any (Nat.beq j)) (by kernel_rfl) (by kernel_rfl) (by kernel_rfl) ?_
  iterate 2 (first | ((with_reducible refine vfree_skip rfl ?_ ?_); (focus rfl); intro K hK; go_big_quiet_op; go_big_quiet_on) | ((with_reducible refine vfree_hard ?_ ?_ ?_); (focus rfl); (focus rfl); intro K hK; go_big_quiet_op; go_big_quiet_on))
  refine vfree_one (.int .i64 20) rfl rfl rfl (fun w' hw' => ?_) ?_
  · have hb := hw'.1.below
    go_simp
    all_goals exact (HV.out w').mono fun _ _ ⟨h1, h2⟩ => ⟨h1, h2⟩
  intro K hK
  go_big_quiet_op
  go_big_quiet_on
  iterate 2 (first | ((with_reducible refine vfree_skip rfl ?_ ?_); (focus rfl); intro K hK; go_big_quiet_op; go_big_quiet_on) | ((with_reducible refine vfree_hard ?_ ?_ ?_); (focus rfl); (focus rfl); intro K hK; go_big_quiet_op; go_big_quiet_on))
  refine vfree_one (.int .i64 (FL : Nat)) rfl rfl rfl (fun w' hw' => ?_) ?_
  · have hb := hw'.1.below
    go_simp
    all_goals exact (HF.out w').mono fun _ _ ⟨h1, h2⟩ => ⟨h1, h2⟩
  intro K hK
  go_big_quiet_op
  go_big_quiet_on
  iterate 7 (first | ((with_reducible refine vfree_skip rfl ?_ ?_); (focus rfl); intro K hK; go_big_quiet_op; go_big_quiet_on) | ((with_reducible refine vfree_hard ?_ ?_ ?_); (focus rfl); (focus rfl); intro K hK; go_big_quiet_op; go_big_quiet_on))
  refine vfree_soft (ι := Nat) (fun i => .slice (some ⟨i, 0, none⟩) 6 6) (fun i w' => w3.heap.size ≤ i ∧ Whole w' i 3 #[.int .i64 788, .int .i64 20, .int .i64 (FL : Nat), .int .i64 (me : Nat), .int .i64 (CK : Nat), .int .i64 (DT : Nat)]) rfl rfl rfl (fun _ => fun _ _ h he => ⟨h.1, h.2.below' he⟩) (fun w' hw' => ?_) (fun T => ?_)
  · have hb := hw'.1.below
    clear hw'
    go_simp
    exact ⟨(Below.refl _ _).alloc (Nat.le_refl _) _, w'.heap.size, rfl, hb.size, Whole.new w' 3 _ rfl⟩
  intro K hK
  go_big_quiet_op
  go_big_quiet_on
  iterate 2 (first | ((with_reducible refine vfree_skip rfl ?_ ?_); (focus rfl); intro K hK; go_big_quiet_op; go_big_quiet_on) | ((with_reducible refine vfree_hard ?_ ?_ ?_); (focus rfl); (focus rfl); intro K hK; go_big_quiet_op; go_big_quiet_on))
  refine vfree_nil ?_
  intro w4 hb4 hk4
  have HS4 := Lib.hid (show w3.heap.size ≤ T ∧ Whole w4 T 3 #[.int .i64 788, .int .i64 20, .int .i64 (FL : Nat), .int .i64 (me : Nat), .int .i64 (CK : Nat), .int .i64 (DT : Nat)] from by have h := hk4 13; simpa [upd] using h).2
  have HB4 := Lib.hid (HB3.out.trans (hb4.mono HB3.out.size))
  have HO4 := Lib.hid (HO3.out.below hb4)
  have HR := Lib.hid (HR.out.below' hb4)
  clear hk4 hb4 r0 r1 r2 r3 r4 r5 r6 r7 r8 r9 r10 r11 r12
  obtain ⟨vs, hvs⟩ : ∃ vs : List Nat, [788, 20, FL, me, CK, DT] = vs := ⟨_, rfl⟩
  have hvl : vs.length = 6 := by rw [← hvs]; rfl
  have HS : Hid (Whole w4 T 3 (vs.map fun x => Value.int .i64 (x : Nat)).toArray) := Lib.hid (by rw [← hvs]; exact HS4.out)
  have HVS : Hid (∀ x ∈ vs, x < 9223372036854775808) := Lib.hid (by rw [← hvs]; simp <;> omega)
  have HEvs := Lib.hid hvs
  clear hvs HS4
  go_wp2_with fail
  go_loopw [12, 61] (fun b i wr => ∃ (j : Nat) (A' : Option Addr) (c' : Nat), j ≤ 6 ∧ i = .int .i64 (j : Nat) ∧ b = .slice A' (4 + 2 * j) c' ∧ Hid (Bs wr (fun q => w.heap.size ≤ q) A' (4 + 2 * j) (leB 33639248 4 ++ catK 2 (vs.take j))) ∧ Hid (Below w4.heap.size w4 wr)) (fun _ i _ => 6 - (intOf i).toNat)
  case atStart => exact ⟨0, A3, c3, Nat.zero_le _, rfl, rfl, Lib.hid (by simpa [catK] using HO4.out), Lib.hid (Below.refl _ _)⟩
  case round =>
    obtain ⟨j, A', c', hj, rfl, rfl, HOj, HBj⟩ := hrel
    by_cases hlt : j < 6
    · have h1 : (0 : Int) ≤ (j : Int) := by omega
      have h2 : (j : Int) < 6 := by omega
      have h3 : ((j : Int)).toNat = j := by omega
      obtain ⟨x, hx⟩ : ∃ x, vs.getD j 0 = x := ⟨_, rfl⟩
      have hc := (HS.out.below' HBj.out).cell j
      have hxl : x < 9223372036854775808 := by rw [← hx]; exact getD_lt (by omega) HVS.out j
      have hc' : wr.cell? ⟨T, j, none⟩ = some (.int .i64 (x : Nat)) := by rw [hc, ← hx]; exact vals_at vs j (by omega)
      clear hc
      have kx : IntKind.u64.wrap (x : Int) = (x : Int) := IntWalk.u64_in _ (by omega)
      have HX := Lib.hid hx
      clear hx
      go_wp2_with fail
      refine (append_right A' (4 + 2 * j) c' _ _ 2 x wr HOj.out (by omega) (by omega) (by omega) (by omega)).mono ?_
      rintro e wy ⟨A9, c9, rfl, ho, hb⟩
      have hsz : w.heap.size ≤ wr.heap.size := Nat.le_trans HB4.out.size HBj.out.size
      have HO9 : Hid (Bs wy (fun q => w.heap.size ≤ q) A9 (4 + 2 * (j + 1)) (leB 33639248 4 ++ catK 2 (vs.take (j + 1)))) := Lib.hid (by
        have h := (Bs.of_own ho).mono fun b h => Nat.le_trans hsz h
        rw [catK_take 2 vs j (by omega), HX.out, ← List.append_assoc]
        exact h)
      have HB9 := Lib.hid (HBj.out.trans (hb.mono HBj.out.size))
      have en : 4 + 2 * j + 2 = 4 + 2 * (j + 1) := by omega
      rw [en]
      clear ho hb en
      go_wp2
      first
        | exact ⟨⟨j + 1, A9, c9, by omega, by simp, rfl, HO9, HB9⟩, by simp only [intOf]; omega⟩
        | exact ⟨⟨_, ⟨j + 1, A9, c9, by omega, by simp, rfl, HO9, HB9⟩, rfl⟩, by show 6 - ((j : Int) + 1).toNat < 6 - ((j : Int)).toNat; omega⟩
        | exact ⟨⟨_, _, ⟨j + 1, A9, c9, by omega, by simp, rfl, HO9, HB9⟩, rfl⟩, by show 6 - ((j : Int) + 1).toNat < 6 - ((j : Int)).toNat; omega⟩
        | exact ⟨⟨_, _, _, ⟨j + 1, A9, c9, by omega, by simp, rfl, HO9, HB9⟩, rfl⟩, by show 6 - ((j : Int) + 1).toNat < 6 - ((j : Int)).toNat; omega⟩
        | exact ⟨⟨_, _, _, _, ⟨j + 1, A9, c9, by omega, by simp, rfl, HO9, HB9⟩, rfl⟩, by show 6 - ((j : Int) + 1).toNat < 6 - ((j : Int)).toNat; omega⟩
        | exact ⟨⟨_, _, _, _, _, ⟨j + 1, A9, c9, by omega, by simp, rfl, HO9, HB9⟩, rfl⟩, by show 6 - ((j : Int) + 1).toNat < 6 - ((j : Int)).toNat; omega⟩
        | exact ⟨⟨_, _, _, _, _, _, ⟨j + 1, A9, c9, by omega, by simp, rfl, HO9, HB9⟩, rfl⟩, by show 6 - ((j : Int) + 1).toNat < 6 - ((j : Int)).toNat; omega⟩
        | exact ⟨⟨_, _, _, _, _, _, _, ⟨j + 1, A9, c9, by omega, by simp, rfl, HO9, HB9⟩, rfl⟩, by show 6 - ((j : Int) + 1).toNat < 6 - ((j : Int)).toNat; omega⟩
        | exact ⟨⟨_, _, _, _, _, _, _, _, ⟨j + 1, A9, c9, by omega, by simp, rfl, HO9, HB9⟩, rfl⟩, by show 6 - ((j : Int) + 1).toNat < 6 - ((j : Int)).toNat; omega⟩
        | exact ⟨⟨_, _, _, _, _, _, _, _, _, ⟨j + 1, A9, c9, by omega, by simp, rfl, HO9, HB9⟩, rfl⟩, by show 6 - ((j : Int) + 1).toNat < 6 - ((j : Int)).toNat; omega⟩
        | exact ⟨⟨_, _, _, _, _, _, _, _, _, _, ⟨j + 1, A9, c9, by omega, by simp, rfl, HO9, HB9⟩, rfl⟩, by show 6 - ((j : Int) + 1).toNat < 6 - ((j : Int)).toNat; omega⟩
        | exact ⟨⟨_, _, _, _, _, _, _, _, _, _, _, ⟨j + 1, A9, c9, by omega, by simp, rfl, HO9, HB9⟩, rfl⟩, by show 6 - ((j : Int) + 1).toNat < 6 - ((j : Int)).toNat; omega⟩
        | exact ⟨⟨_, _, _, _, _, _, _, _, _, _, _, _, ⟨j + 1, A9, c9, by omega, by simp, rfl, HO9, HB9⟩, rfl⟩, by show 6 - ((j : Int) + 1).toNat < 6 - ((j : Int)).toNat; omega⟩
        | exact ⟨⟨_, _, _, _, _, _, _, _, _, _, _, _, _, ⟨j + 1, A9, c9, by omega, by simp, rfl, HO9, HB9⟩, rfl⟩, by show 6 - ((j : Int) + 1).toNat < 6 - ((j : Int)).toNat; omega⟩
        | exact ⟨⟨_, _, _, _, _, _, _, _, _, _, _, _, _, _, ⟨j + 1, A9, c9, by omega, by simp, rfl, HO9, HB9⟩, rfl⟩, by show 6 - ((j : Int) + 1).toNat < 6 - ((j : Int)).toNat; omega⟩
        | exact ⟨⟨_, _, _, _, _, _, _, _, _, _, _, _, _, _, _, ⟨j + 1, A9, c9, by omega, by simp, rfl, HO9, HB9⟩, rfl⟩, by show 6 - ((j : Int) + 1).toNat < 6 - ((j : Int)).toNat; omega⟩
        | exact ⟨⟨_, _, _, _, _, _, _, _, _, _, _, _, _, _, _, _, ⟨j + 1, A9, c9, by omega, by simp, rfl, HO9, HB9⟩, rfl⟩, by show 6 - ((j : Int) + 1).toNat < 6 - ((j : Int)).toNat; omega⟩
        | exact ⟨⟨_, _, _, _, _, _, _, _, _, _, _, _, _, _, _, _, _, ⟨j + 1, A9, c9, by omega, by simp, rfl, HO9, HB9⟩, rfl⟩, by show 6 - ((j : Int) + 1).toNat < 6 - ((j : Int)).toNat; omega⟩
        | exact ⟨⟨_, _, _, _, _, _, _, _, _, _, _, _, _, _, _, _, _, _, ⟨j + 1, A9, c9, by omega, by simp, rfl, HO9, HB9⟩, rfl⟩, by show 6 - ((j : Int) + 1).toNat < 6 - ((j : Int)).toNat; omega⟩
        | exact ⟨⟨_, _, _, _, _, _, _, _, _, _, _, _, _, _, _, _, _, _, _, ⟨j + 1, A9, c9, by omega, by simp, rfl, HO9, HB9⟩, rfl⟩, by show 6 - ((j : Int) + 1).toNat < 6 - ((j : Int)).toNat; omega⟩
        | exact ⟨⟨_, _, _, _, _, _, _, _, _, _, _, _, _, _, _, _, _, _, _, _, ⟨j + 1, A9, c9, by omega, by simp, rfl, HO9, HB9⟩, rfl⟩, by show 6 - ((j : Int) + 1).toNat < 6 - ((j : Int)).toNat; omega⟩
        | exact ⟨⟨_, _, _, _, _, _, _, _, _, _, _, _, _, _, _, _, _, _, _, _, _, ⟨j + 1, A9, c9, by omega, by simp, rfl, HO9, HB9⟩, rfl⟩, by show 6 - ((j : Int) + 1).toNat < 6 - ((j : Int)).toNat; omega⟩
        | exact ⟨⟨_, _, _, _, _, _, _, _, _, _, _, _, _, _, _, _, _, _, _, _, _, _, ⟨j + 1, A9, c9, by omega, by simp, rfl, HO9, HB9⟩, rfl⟩, by show 6 - ((j : Int) + 1).toNat < 6 - ((j : Int)).toNat; omega⟩
        | exact ⟨⟨_, _, _, _, _, _, _, _, _, _, _, _, _, _, _, _, _, _, _, _, _, _, _, ⟨j + 1, A9, c9, by omega, by simp, rfl, HO9, HB9⟩, rfl⟩, by show 6 - ((j : Int) + 1).toNat < 6 - ((j : Int)).toNat; omega⟩
        | exact ⟨⟨_, _, _, _, _, _, _, _, _, _, _, _, _, _, _, _, _, _, _, _, _, _, _, _, ⟨j + 1, A9, c9, by omega, by simp, rfl, HO9, HB9⟩, rfl⟩, by show 6 - ((j : Int) + 1).toNat < 6 - ((j : Int)).toNat; omega⟩
        | exact ⟨⟨_, _, _, _, _, _, _, _, _, _, _, _, _, _, _, _, _, _, _, _, _, _, _, _, _, ⟨j + 1, A9, c9, by omega, by simp, rfl, HO9, HB9⟩, rfl⟩, by show 6 - ((j : Int) + 1).toNat < 6 - ((j : Int)).toNat; omega⟩
        | exact ⟨⟨_, _, _, _, _, _, _, _, _, _, _, _, _, _, _, _, _, _, _, _, _, _, _, _, _, _, ⟨j + 1, A9, c9, by omega, by simp, rfl, HO9, HB9⟩, rfl⟩, by show 6 - ((j : Int) + 1).toNat < 6 - ((j : Int)).toNat; omega⟩
        | exact ⟨⟨_, _, _, _, _, _, _, _, _, _, _, _, _, _, _, _, _, _, _, _, _, _, _, _, _, _, _, ⟨j + 1, A9, c9, by omega, by simp, rfl, HO9, HB9⟩, rfl⟩, by show 6 - ((j : Int) + 1).toNat < 6 - ((j : Int)).toNat; omega⟩
        | exact ⟨⟨_, _, _, _, _, _, _, _, _, _, _, _, _, _, _, _, _, _, _, _, _, _, _, _, _, _, _, _, ⟨j + 1, A9, c9, by omega, by simp, rfl, HO9, HB9⟩, rfl⟩, by show 6 - ((j : Int) + 1).toNat < 6 - ((j : Int)).toNat; omega⟩
        | exact ⟨⟨_, _, _, _, _, _, _, _, _, _, _, _, _, _, _, _, _, _, _, _, _, _, _, _, _, _, _, _, _, ⟨j + 1, A9, c9, by omega, by simp, rfl, HO9, HB9⟩, rfl⟩, by show 6 - ((j : Int) + 1).toNat < 6 - ((j : Int)).toNat; omega⟩
        | exact ⟨⟨_, _, _, _, _, _, _, _, _, _, _, _, _, _, _, _, _, _, _, _, _, _, _, _, _, _, _, _, _, _, ⟨j + 1, A9, c9, by omega, by simp, rfl, HO9, HB9⟩, rfl⟩, by show 6 - ((j : Int) + 1).toNat < 6 - ((j : Int)).toNat; omega⟩
    · have hj' : j = 6 := by omega
      subst hj'
      have HOw5 : Hid (Bs wr (fun q => w.heap.size ≤ q) A' (4 + 2 * 6) (leB 33639248 4 ++ catK 2 vs)) := Lib.hid (by
        have h := HOj.out
        rwa [List.take_of_length_le (by omega)] at h)
      have HBw5 := Lib.hid (HB4.out.trans (HBj.out.mono HB4.out.size))
      have HR := Lib.hid (HR.out.below' HBj.out)
      clear HOj HBj
      have q8 := HR.out.cell 8
      simp at q8
      go_wp2_with fail
      obtain ⟨w6, hw6⟩ : ∃ x, wr.alloc (.cells #[.int .i64 (c : Nat), .int .i64 (p : Nat), .int .i64 (z : Nat)] 3) = x := ⟨_, rfl⟩
      rw [hw6]
      have hb6 : Below wr.heap.size wr w6 := hw6 ▸ (Below.refl _ _).alloc (Nat.le_refl _) _
      have HBw6 := Lib.hid (HBw5.out.trans (hb6.mono HBw5.out.size))
      have HOw6 := Lib.hid (HOw5.out.below hb6)
      have HR := Lib.hid (HR.out.below' hb6)
      obtain ⟨T2, hT2⟩ : ∃ x, wr.heap.size = x := ⟨_, rfl⟩
      obtain ⟨us, hus⟩ : ∃ us : List Nat, [c, p, z] = us := ⟨_, rfl⟩
      have hulus : us.length = 3 := by rw [← hus]; rfl
      have HSw6 : Hid (Whole w6 T2 3 (us.map fun x => Value.int .i64 (x : Nat)).toArray) := Lib.hid (by rw [← hus, ← hw6]; exact Whole.new wr 3 _ hT2.symm)
      have HVus : Hid (∀ x ∈ us, x < 9223372036854775808) := Lib.hid (by rw [← hus]; simp <;> omega)
      have HEus := Lib.hid hus
      rw [hT2]
      clear hus hw6 hb6 hT2
      clear q8
      go_loopw [12, 78] (fun b i wr => ∃ (j : Nat) (A' : Option Addr) (c' : Nat), j ≤ 3 ∧ i = .int .i64 (j : Nat) ∧ b = .slice A' (16 + 4 * j) c' ∧ Hid (Bs wr (fun q => w.heap.size ≤ q) A' (16 + 4 * j) ((leB 33639248 4 ++ catK 2 vs) ++ catK 4 (us.take j))) ∧ Hid (Below w6.heap.size w6 wr)) (fun _ i _ => 3 - (intOf i).toNat)
      case atStart => exact ⟨0, A', c', Nat.zero_le _, rfl, rfl, Lib.hid (by simpa [catK] using HOw6.out), Lib.hid (Below.refl _ _)⟩
      case round =>
        obtain ⟨j, A', c', hj, rfl, rfl, HOj, HBj⟩ := hrel
        by_cases hlt : j < 3
        · have h1 : (0 : Int) ≤ (j : Int) := by omega
          have h2 : (j : Int) < 3 := by omega
          have h3 : ((j : Int)).toNat = j := by omega
          obtain ⟨x, hx⟩ : ∃ x, us.getD j 0 = x := ⟨_, rfl⟩
          have hc := (HSw6.out.below' HBj.out).cell j
          have hxl : x < 9223372036854775808 := by rw [← hx]; exact getD_lt (by omega) HVus.out j
          have hc' : wr.cell? ⟨T2, j, none⟩ = some (.int .i64 (x : Nat)) := by rw [hc, ← hx]; exact vals_at us j (by omega)
          clear hc
          have kx : IntKind.u64.wrap (x : Int) = (x : Int) := IntWalk.u64_in _ (by omega)
          have HX := Lib.hid hx
          clear hx
          go_wp2_with fail
          refine (append_right A' (16 + 4 * j) c' _ _ 4 x wr HOj.out (by omega) (by omega) (by omega) (by omega)).mono ?_
          rintro e wy ⟨A9, c9, rfl, ho, hb⟩
          have hsz : w.heap.size ≤ wr.heap.size := Nat.le_trans HBw6.out.size HBj.out.size
          have HO9 : Hid (Bs wy (fun q => w.heap.size ≤ q) A9 (16 + 4 * (j + 1)) ((leB 33639248 4 ++ catK 2 vs) ++ catK 4 (us.take (j + 1)))) := Lib.hid (by
            have h := (Bs.of_own ho).mono fun b h => Nat.le_trans hsz h
            rw [catK_take 4 us j (by omega), HX.out, ← List.append_assoc]
            exact h)
          have HB9 := Lib.hid (HBj.out.trans (hb.mono HBj.out.size))
          have en : 16 + 4 * j + 4 = 16 + 4 * (j + 1) := by omega
          rw [en]
          clear ho hb en
          go_wp2
          first
            | exact ⟨⟨j + 1, A9, c9, by omega, by simp, rfl, HO9, HB9⟩, by simp only [intOf]; omega⟩
            | exact ⟨⟨_, ⟨j + 1, A9, c9, by omega, by simp, rfl, HO9, HB9⟩, rfl⟩, by show 3 - ((j : Int) + 1).toNat < 3 - ((j : Int)).toNat; omega⟩
            | exact ⟨⟨_, _, ⟨j + 1, A9, c9, by omega, by simp, rfl, HO9, HB9⟩, rfl⟩, by show 3 - ((j : Int) + 1).toNat < 3 - ((j : Int)).toNat; omega⟩
            | exact ⟨⟨_, _, _, ⟨j + 1, A9, c9, by omega, by simp, rfl, HO9, HB9⟩, rfl⟩, by show 3 - ((j : Int) + 1).toNat < 3 - ((j : Int)).toNat; omega⟩
            | exact ⟨⟨_, _, _, _, ⟨j + 1, A9, c9, by omega, by simp, rfl, HO9, HB9⟩, rfl⟩, by show 3 - ((j : Int) + 1).toNat < 3 - ((j : Int)).toNat; omega⟩
            | exact ⟨⟨_, _, _, _, _, ⟨j + 1, A9, c9, by omega, by simp, rfl, HO9, HB9⟩, rfl⟩, by show 3 - ((j : Int) + 1).toNat < 3 - ((j : Int)).toNat; omega⟩
            | exact ⟨⟨_, _, _, _, _, _, ⟨j + 1, A9, c9, by omega, by simp, rfl, HO9, HB9⟩, rfl⟩, by show 3 - ((j : Int) + 1).toNat < 3 - ((j : Int)).toNat; omega⟩
            | exact ⟨⟨_, _, _, _, _, _, _, ⟨j + 1, A9, c9, by omega, by simp, rfl, HO9, HB9⟩, rfl⟩, by show 3 - ((j : Int) + 1).toNat < 3 - ((j : Int)).toNat; omega⟩
            | exact ⟨⟨_, _, _, _, _, _, _, _, ⟨j + 1, A9, c9, by omega, by simp, rfl, HO9, HB9⟩, rfl⟩, by show 3 - ((j : Int) + 1).toNat < 3 - ((j : Int)).toNat; omega⟩
            | exact ⟨⟨_, _, _, _, _, _, _, _, _, ⟨j + 1, A9, c9, by omega, by simp, rfl, HO9, HB9⟩, rfl⟩, by show 3 - ((j : Int) + 1).toNat < 3 - ((j : Int)).toNat; omega⟩
            | exact ⟨⟨_, _, _, _, _, _, _, _, _, _, ⟨j + 1, A9, c9, by omega, by simp, rfl, HO9, HB9⟩, rfl⟩, by show 3 - ((j : Int) + 1).toNat < 3 - ((j : Int)).toNat; omega⟩
            | exact ⟨⟨_, _, _, _, _, _, _, _, _, _, _, ⟨j + 1, A9, c9, by omega, by simp, rfl, HO9, HB9⟩, rfl⟩, by show 3 - ((j : Int) + 1).toNat < 3 - ((j : Int)).toNat; omega⟩
            | exact ⟨⟨_, _, _, _, _, _, _, _, _, _, _, _, ⟨j + 1, A9, c9, by omega, by simp, rfl, HO9, HB9⟩, rfl⟩, by show 3 - ((j : Int) + 1).toNat < 3 - ((j : Int)).toNat; omega⟩
            | exact ⟨⟨_, _, _, _, _, _, _, _, _, _, _, _, _, ⟨j + 1, A9, c9, by omega, by simp, rfl, HO9, HB9⟩, rfl⟩, by show 3 - ((j : Int) + 1).toNat < 3 - ((j : Int)).toNat; omega⟩
            | exact ⟨⟨_, _, _, _, _, _, _, _, _, _, _, _, _, _, ⟨j + 1, A9, c9, by omega, by simp, rfl, HO9, HB9⟩, rfl⟩, by show 3 - ((j : Int) + 1).toNat < 3 - ((j : Int)).toNat; omega⟩
            | exact ⟨⟨_, _, _, _, _, _, _, _, _, _, _, _, _, _, _, ⟨j + 1, A9, c9, by omega, by simp, rfl, HO9, HB9⟩, rfl⟩, by show 3 - ((j : Int) + 1).toNat < 3 - ((j : Int)).toNat; omega⟩
            | exact ⟨⟨_, _, _, _, _, _, _, _, _, _, _, _, _, _, _, _, ⟨j + 1, A9, c9, by omega, by simp, rfl, HO9, HB9⟩, rfl⟩, by show 3 - ((j : Int) + 1).toNat < 3 - ((j : Int)).toNat; omega⟩
            | exact ⟨⟨_, _, _, _, _, _, _, _, _, _, _, _, _, _, _, _, _, ⟨j + 1, A9, c9, by omega, by simp, rfl, HO9, HB9⟩, rfl⟩, by show 3 - ((j : Int) + 1).toNat < 3 - ((j : Int)).toNat; omega⟩
            | exact ⟨⟨_, _, _, _, _, _, _, _, _, _, _, _, _, _, _, _, _, _, ⟨j + 1, A9, c9, by omega, by simp, rfl, HO9, HB9⟩, rfl⟩, by show 3 - ((j : Int) + 1).toNat < 3 - ((j : Int)).toNat; omega⟩
            | exact ⟨⟨_, _, _, _, _, _, _, _, _, _, _, _, _, _, _, _, _, _, _, ⟨j + 1, A9, c9, by omega, by simp, rfl, HO9, HB9⟩, rfl⟩, by show 3 - ((j : Int) + 1).toNat < 3 - ((j : Int)).toNat; omega⟩
            | exact ⟨⟨_, _, _, _, _, _, _, _, _, _, _, _, _, _, _, _, _, _, _, _, ⟨j + 1, A9, c9, by omega, by simp, rfl, HO9, HB9⟩, rfl⟩, by show 3 - ((j : Int) + 1).toNat < 3 - ((j : Int)).toNat; omega⟩
            | exact ⟨⟨_, _, _, _, _, _, _, _, _, _, _, _, _, _, _, _, _, _, _, _, _, ⟨j + 1, A9, c9, by omega, by simp, rfl, HO9, HB9⟩, rfl⟩, by show 3 - ((j : Int) + 1).toNat < 3 - ((j : Int)).toNat; omega⟩
            | exact ⟨⟨_, _, _, _, _, _, _, _, _, _, _, _, _, _, _, _, _, _, _, _, _, _, ⟨j + 1, A9, c9, by omega, by simp, rfl, HO9, HB9⟩, rfl⟩, by show 3 - ((j : Int) + 1).toNat < 3 - ((j : Int)).toNat; omega⟩
            | exact ⟨⟨_, _, _, _, _, _, _, _, _, _, _, _, _, _, _, _, _, _, _, _, _, _, _, ⟨j + 1, A9, c9, by omega, by simp, rfl, HO9, HB9⟩, rfl⟩, by show 3 - ((j : Int) + 1).toNat < 3 - ((j : Int)).toNat; omega⟩
            | exact ⟨⟨_, _, _, _, _, _, _, _, _, _, _, _, _, _, _, _, _, _, _, _, _, _, _, _, ⟨j + 1, A9, c9, by omega, by simp, rfl, HO9, HB9⟩, rfl⟩, by show 3 - ((j : Int) + 1).toNat < 3 - ((j : Int)).toNat; omega⟩
            | exact ⟨⟨_, _, _, _, _, _, _, _, _, _, _, _, _, _, _, _, _, _, _, _, _, _, _, _, _, ⟨j + 1, A9, c9, by omega, by simp, rfl, HO9, HB9⟩, rfl⟩, by show 3 - ((j : Int) + 1).toNat < 3 - ((j : Int)).toNat; omega⟩
            | exact ⟨⟨_, _, _, _, _, _, _, _, _, _, _, _, _, _, _, _, _, _, _, _, _, _, _, _, _, _, ⟨j + 1, A9, c9, by omega, by simp, rfl, HO9, HB9⟩, rfl⟩, by show 3 - ((j : Int) + 1).toNat < 3 - ((j : Int)).toNat; omega⟩
            | exact ⟨⟨_, _, _, _, _, _, _, _, _, _, _, _, _, _, _, _, _, _, _, _, _, _, _, _, _, _, _, ⟨j + 1, A9, c9, by omega, by simp, rfl, HO9, HB9⟩, rfl⟩, by show 3 - ((j : Int) + 1).toNat < 3 - ((j : Int)).toNat; omega⟩
            | exact ⟨⟨_, _, _, _, _, _, _, _, _, _, _, _, _, _, _, _, _, _, _, _, _, _, _, _, _, _, _, _, ⟨j + 1, A9, c9, by omega, by simp, rfl, HO9, HB9⟩, rfl⟩, by show 3 - ((j : Int) + 1).toNat < 3 - ((j : Int)).toNat; omega⟩
            | exact ⟨⟨_, _, _, _, _, _, _, _, _, _, _, _, _, _, _, _, _, _, _, _, _, _, _, _, _, _, _, _, _, ⟨j + 1, A9, c9, by omega, by simp, rfl, HO9, HB9⟩, rfl⟩, by show 3 - ((j : Int) + 1).toNat < 3 - ((j : Int)).toNat; omega⟩
            | exact ⟨⟨_, _, _, _, _, _, _, _, _, _, _, _, _, _, _, _, _, _, _, _, _, _, _, _, _, _, _, _, _, _, ⟨j + 1, A9, c9, by omega, by simp, rfl, HO9, HB9⟩, rfl⟩, by show 3 - ((j : Int) + 1).toNat < 3 - ((j : Int)).toNat; omega⟩
        · have hj' : j = 3 := by omega
          subst hj'
          have HOw7 : Hid (Bs wr (fun q => w.heap.size ≤ q) A' (16 + 4 * 3) ((leB 33639248 4 ++ catK 2 vs) ++ catK 4 us)) := Lib.hid (by
            have h := HOj.out
            rwa [List.take_of_length_le (by omega)] at h)
          have HBw7 := Lib.hid (HBw6.out.trans (HBj.out.mono HBw6.out.size))
          have HR := Lib.hid (HR.out.below' HBj.out)
          clear HOj HBj
          have q0 := HR.out.cell 0
          simp at q0
          go_wp2_with fail
          obtain ⟨w8, hw6⟩ : ∃ x, wr.alloc (.cells #[.int .i64 (s.size : Nat), .int .i64 0, .int .i64 0, .int .i64 0, .int .i64 0] 3) = x := ⟨_, rfl⟩
          rw [hw6]
          have hb6 : Below wr.heap.size wr w8 := hw6 ▸ (Below.refl _ _).alloc (Nat.le_refl _) _
          have HBw8 := Lib.hid (HBw7.out.trans (hb6.mono HBw7.out.size))
          have HOw8 := Lib.hid (HOw7.out.below hb6)
          have HR := Lib.hid (HR.out.below' hb6)
          obtain ⟨T3, hT2⟩ : ∃ x, wr.heap.size = x := ⟨_, rfl⟩
          obtain ⟨ns, hus⟩ : ∃ us : List Nat, [s.size, 0, 0, 0, 0] = us := ⟨_, rfl⟩
          have hulns : ns.length = 5 := by rw [← hus]; rfl
          have HSw8 : Hid (Whole w8 T3 3 (ns.map fun x => Value.int .i64 (x : Nat)).toArray) := Lib.hid (by rw [← hus, ← hw6]; exact Whole.new wr 3 _ hT2.symm)
          have HVns : Hid (∀ x ∈ ns, x < 9223372036854775808) := Lib.hid (by rw [← hus]; simp <;> omega)
          have HEns := Lib.hid hus
          rw [hT2]
          clear hus hw6 hb6 hT2
          clear q0
          go_loopw [12, 94] (fun b i wr => ∃ (j : Nat) (A' : Option Addr) (c' : Nat), j ≤ 5 ∧ i = .int .i64 (j : Nat) ∧ b = .slice A' (28 + 2 * j) c' ∧ Hid (Bs wr (fun q => w.heap.size ≤ q) A' (28 + 2 * j) ((leB 33639248 4 ++ catK 2 vs ++ catK 4 us) ++ catK 2 (ns.take j))) ∧ Hid (Below w8.heap.size w8 wr)) (fun _ i _ => 5 - (intOf i).toNat)
          case atStart => exact ⟨0, A', c', Nat.zero_le _, rfl, rfl, Lib.hid (by simpa [catK] using HOw8.out), Lib.hid (Below.refl _ _)⟩
          case round =>
            obtain ⟨j, A', c', hj, rfl, rfl, HOj, HBj⟩ := hrel
            by_cases hlt : j < 5
            · have h1 : (0 : Int) ≤ (j : Int) := by omega
              have h2 : (j : Int) < 5 := by omega
              have h3 : ((j : Int)).toNat = j := by omega
              obtain ⟨x, hx⟩ : ∃ x, ns.getD j 0 = x := ⟨_, rfl⟩
              have hc := (HSw8.out.below' HBj.out).cell j
              have hxl : x < 9223372036854775808 := by rw [← hx]; exact getD_lt (by omega) HVns.out j
              have hc' : wr.cell? ⟨T3, j, none⟩ = some (.int .i64 (x : Nat)) := by rw [hc, ← hx]; exact vals_at ns j (by omega)
              clear hc
              have kx : IntKind.u64.wrap (x : Int) = (x : Int) := IntWalk.u64_in _ (by omega)
              have HX := Lib.hid hx
              clear hx
              go_wp2_with fail
              refine (append_right A' (28 + 2 * j) c' _ _ 2 x wr HOj.out (by omega) (by omega) (by omega) (by omega)).mono ?_
              rintro e wy ⟨A9, c9, rfl, ho, hb⟩
              have hsz : w.heap.size ≤ wr.heap.size := Nat.le_trans HBw8.out.size HBj.out.size
              have HO9 : Hid (Bs wy (fun q => w.heap.size ≤ q) A9 (28 + 2 * (j + 1)) ((leB 33639248 4 ++ catK 2 vs ++ catK 4 us) ++ catK 2 (ns.take (j + 1)))) := Lib.hid (by
                have h := (Bs.of_own ho).mono fun b h => Nat.le_trans hsz h
                rw [catK_take 2 ns j (by omega), HX.out, ← List.append_assoc]
                exact h)
              have HB9 := Lib.hid (HBj.out.trans (hb.mono HBj.out.size))
              have en : 28 + 2 * j + 2 = 28 + 2 * (j + 1) := by omega
              rw [en]
              clear ho hb en
              go_wp2
              first
                | exact ⟨⟨j + 1, A9, c9, by omega, by simp, rfl, HO9, HB9⟩, by simp only [intOf]; omega⟩
                | exact ⟨⟨_, ⟨j + 1, A9, c9, by omega, by simp, rfl, HO9, HB9⟩, rfl⟩, by show 5 - ((j : Int) + 1).toNat < 5 - ((j : Int)).toNat; omega⟩
                | exact ⟨⟨_, _, ⟨j + 1, A9, c9, by omega, by simp, rfl, HO9, HB9⟩, rfl⟩, by show 5 - ((j : Int) + 1).toNat < 5 - ((j : Int)).toNat; omega⟩
                | exact ⟨⟨_, _, _, ⟨j + 1, A9, c9, by omega, by simp, rfl, HO9, HB9⟩, rfl⟩, by show 5 - ((j : Int) + 1).toNat < 5 - ((j : Int)).toNat; omega⟩
                | exact ⟨⟨_, _, _, _, ⟨j + 1, A9, c9, by omega, by simp, rfl, HO9, HB9⟩, rfl⟩, by show 5 - ((j : Int) + 1).toNat < 5 - ((j : Int)).toNat; omega⟩
                | exact ⟨⟨_, _, _, _, _, ⟨j + 1, A9, c9, by omega, by simp, rfl, HO9, HB9⟩, rfl⟩, by show 5 - ((j : Int) + 1).toNat < 5 - ((j : Int)).toNat; omega⟩
                | exact ⟨⟨_, _, _, _, _, _, ⟨j + 1, A9, c9, by omega, by simp, rfl, HO9, HB9⟩, rfl⟩, by show 5 - ((j : Int) + 1).toNat < 5 - ((j : Int)).toNat; omega⟩
                | exact ⟨⟨_, _, _, _, _, _, _, ⟨j + 1, A9, c9, by omega, by simp, rfl, HO9, HB9⟩, rfl⟩, by show 5 - ((j : Int) + 1).toNat < 5 - ((j : Int)).toNat; omega⟩
                | exact ⟨⟨_, _, _, _, _, _, _, _, ⟨j + 1, A9, c9, by omega, by simp, rfl, HO9, HB9⟩, rfl⟩, by show 5 - ((j : Int) + 1).toNat < 5 - ((j : Int)).toNat; omega⟩
                | exact ⟨⟨_, _, _, _, _, _, _, _, _, ⟨j + 1, A9, c9, by omega, by simp, rfl, HO9, HB9⟩, rfl⟩, by show 5 - ((j : Int) + 1).toNat < 5 - ((j : Int)).toNat; omega⟩
                | exact ⟨⟨_, _, _, _, _, _, _, _, _, _, ⟨j + 1, A9, c9, by omega, by simp, rfl, HO9, HB9⟩, rfl⟩, by show 5 - ((j : Int) + 1).toNat < 5 - ((j : Int)).toNat; omega⟩
                | exact ⟨⟨_, _, _, _, _, _, _, _, _, _, _, ⟨j + 1, A9, c9, by omega, by simp, rfl, HO9, HB9⟩, rfl⟩, by show 5 - ((j : Int) + 1).toNat < 5 - ((j : Int)).toNat; omega⟩
                | exact ⟨⟨_, _, _, _, _, _, _, _, _, _, _, _, ⟨j + 1, A9, c9, by omega, by simp, rfl, HO9, HB9⟩, rfl⟩, by show 5 - ((j : Int) + 1).toNat < 5 - ((j : Int)).toNat; omega⟩
                | exact ⟨⟨_, _, _, _, _, _, _, _, _, _, _, _, _, ⟨j + 1, A9, c9, by omega, by simp, rfl, HO9, HB9⟩, rfl⟩, by show 5 - ((j : Int) + 1).toNat < 5 - ((j : Int)).toNat; omega⟩
                | exact ⟨⟨_, _, _, _, _, _, _, _, _, _, _, _, _, _, ⟨j + 1, A9, c9, by omega, by simp, rfl, HO9, HB9⟩, rfl⟩, by show 5 - ((j : Int) + 1).toNat < 5 - ((j : Int)).toNat; omega⟩
                | exact ⟨⟨_, _, _, _, _, _, _, _, _, _, _, _, _, _, _, ⟨j + 1, A9, c9, by omega, by simp, rfl, HO9, HB9⟩, rfl⟩, by show 5 - ((j : Int) + 1).toNat < 5 - ((j : Int)).toNat; omega⟩
                | exact ⟨⟨_, _, _, _, _, _, _, _, _, _, _, _, _, _, _, _, ⟨j + 1, A9, c9, by omega, by simp, rfl, HO9, HB9⟩, rfl⟩, by show 5 - ((j : Int) + 1).toNat < 5 - ((j : Int)).toNat; omega⟩
                | exact ⟨⟨_, _, _, _, _, _, _, _, _, _, _, _, _, _, _, _, _, ⟨j + 1, A9, c9, by omega, by simp, rfl, HO9, HB9⟩, rfl⟩, by show 5 - ((j : Int) + 1).toNat < 5 - ((j : Int)).toNat; omega⟩
                | exact ⟨⟨_, _, _, _, _, _, _, _, _, _, _, _, _, _, _, _, _, _, ⟨j + 1, A9, c9, by omega, by simp, rfl, HO9, HB9⟩, rfl⟩, by show 5 - ((j : Int) + 1).toNat < 5 - ((j : Int)).toNat; omega⟩
                | exact ⟨⟨_, _, _, _, _, _, _, _, _, _, _, _, _, _, _, _, _, _, _, ⟨j + 1, A9, c9, by omega, by simp, rfl, HO9, HB9⟩, rfl⟩, by show 5 - ((j : Int) + 1).toNat < 5 - ((j : Int)).toNat; omega⟩
                | exact ⟨⟨_, _, _, _, _, _, _, _, _, _, _, _, _, _, _, _, _, _, _, _, ⟨j + 1, A9, c9, by omega, by simp, rfl, HO9, HB9⟩, rfl⟩, by show 5 - ((j : Int) + 1).toNat < 5 - ((j : Int)).toNat; omega⟩
                | exact ⟨⟨_, _, _, _, _, _, _, _, _, _, _, _, _, _, _, _, _, _, _, _, _, ⟨j + 1, A9, c9, by omega, by simp, rfl, HO9, HB9⟩, rfl⟩, by show 5 - ((j : Int) + 1).toNat < 5 - ((j : Int)).toNat; omega⟩
                | exact ⟨⟨_, _, _, _, _, _, _, _, _, _, _, _, _, _, _, _, _, _, _, _, _, _, ⟨j + 1, A9, c9, by omega, by simp, rfl, HO9, HB9⟩, rfl⟩, by show 5 - ((j : Int) + 1).toNat < 5 - ((j : Int)).toNat; omega⟩
                | exact ⟨⟨_, _, _, _, _, _, _, _, _, _, _, _, _, _, _, _, _, _, _, _, _, _, _, ⟨j + 1, A9, c9, by omega, by simp, rfl, HO9, HB9⟩, rfl⟩, by show 5 - ((j : Int) + 1).toNat < 5 - ((j : Int)).toNat; omega⟩
                | exact ⟨⟨_, _, _, _, _, _, _, _, _, _, _, _, _, _, _, _, _, _, _, _, _, _, _, _, ⟨j + 1, A9, c9, by omega, by simp, rfl, HO9, HB9⟩, rfl⟩, by show 5 - ((j : Int) + 1).toNat < 5 - ((j : Int)).toNat; omega⟩
                | exact ⟨⟨_, _, _, _, _, _, _, _, _, _, _, _, _, _, _, _, _, _, _, _, _, _, _, _, _, ⟨j + 1, A9, c9, by omega, by simp, rfl, HO9, HB9⟩, rfl⟩, by show 5 - ((j : Int) + 1).toNat < 5 - ((j : Int)).toNat; omega⟩
                | exact ⟨⟨_, _, _, _, _, _, _, _, _, _, _, _, _, _, _, _, _, _, _, _, _, _, _, _, _, _, ⟨j + 1, A9, c9, by omega, by simp, rfl, HO9, HB9⟩, rfl⟩, by show 5 - ((j : Int) + 1).toNat < 5 - ((j : Int)).toNat; omega⟩
                | exact ⟨⟨_, _, _, _, _, _, _, _, _, _, _, _, _, _, _, _, _, _, _, _, _, _, _, _, _, _, _, ⟨j + 1, A9, c9, by omega, by simp, rfl, HO9, HB9⟩, rfl⟩, by show 5 - ((j : Int) + 1).toNat < 5 - ((j : Int)).toNat; omega⟩
                | exact ⟨⟨_, _, _, _, _, _, _, _, _, _, _, _, _, _, _, _, _, _, _, _, _, _, _, _, _, _, _, _, ⟨j + 1, A9, c9, by omega, by simp, rfl, HO9, HB9⟩, rfl⟩, by show 5 - ((j : Int) + 1).toNat < 5 - ((j : Int)).toNat; omega⟩
                | exact ⟨⟨_, _, _, _, _, _, _, _, _, _, _, _, _, _, _, _, _, _, _, _, _, _, _, _, _, _, _, _, _, ⟨j + 1, A9, c9, by omega, by simp, rfl, HO9, HB9⟩, rfl⟩, by show 5 - ((j : Int) + 1).toNat < 5 - ((j : Int)).toNat; omega⟩
                | exact ⟨⟨_, _, _, _, _, _, _, _, _, _, _, _, _, _, _, _, _, _, _, _, _, _, _, _, _, _, _, _, _, _, ⟨j + 1, A9, c9, by omega, by simp, rfl, HO9, HB9⟩, rfl⟩, by show 5 - ((j : Int) + 1).toNat < 5 - ((j : Int)).toNat; omega⟩
            · have hj' : j = 5 := by omega
              subst hj'
              have HOw9 : Hid (Bs wr (fun q => w.heap.size ≤ q) A' (28 + 2 * 5) ((leB 33639248 4 ++ catK 2 vs ++ catK 4 us) ++ catK 2 ns)) := Lib.hid (by
                have h := HOj.out
                rwa [List.take_of_length_le (by omega)] at h)
              have HBw9 := Lib.hid (HBw8.out.trans (HBj.out.mono HBw8.out.size))
              have HR := Lib.hid (HR.out.below' HBj.out)
              clear HOj HBj
              go_wp2_with fail
              refine (append_right A' 38 c' _ _ 4 2175008768 wr HOw9.out (by omega) (by omega) (by omega) (by omega)).mono ?_
              rintro e x1 ⟨A8, c8, rfl, ho, hb⟩
              have HO8 := Lib.hid ((Bs.of_own ho).mono fun b h => Nat.le_trans HBw9.out.size h)
              have HB8 := Lib.hid (HBw9.out.trans (hb.mono HBw9.out.size))
              have HR := Lib.hid (HR.out.below' hb)
              have HLT := Lib.hid HR.out.lt
              clear ho hb
              go_wp2_with fail
              refine (append_right A8 42 c8 _ _ 4 pl x1 HO8.out (by omega) (by omega) (by omega) (by omega)).mono ?_
              rintro e x2 ⟨A9, c9, rfl, ho, hb⟩
              have HOW := Lib.hid ho
              have HB9 := Lib.hid (HB8.out.trans (hb.mono HB8.out.size))
              have HR := Lib.hid (HR.out.below' hb)
              have hx1 : x1.heap.size ≤ x2.heap.size := hb.size
              have hlt1 : w.heap.size < x1.heap.size := HLT.out
              clear ho hb
              have q0 := HR.out.cell 0
              simp at q0
              obtain ⟨i0, hi, hz0, hz1, hz2⟩ := info_parts info5
              go_wp2_with (at_builtin; refine wpList_append_str _ rfl (.tmp 109) (.tmp 112) 33 9 rfl x1.heap.size 5 i0 (.int .u8 0) Tryd.underlying33 Tryd.underlying9 hi hz0 hz1 hz2 rfl (.slice A9 46 c9) 46 _ rfl HOW.out s rfl (by unfold maxLen; omega) (by omega) hx1 ?_)
              intro A10 c10 x3 hown hgrow hat
              have hown' : x3.ownsRow x1.heap.size 5 1 (.slice A10 (46 + s.size) c10) (46 + s.size) ((leB 33639248 4 ++ catK 2 vs ++ catK 4 us ++ catK 2 ns ++ leB 2175008768 4 ++ leB pl 4 ++ s.data.toList).map bv) := by
                simp only [List.map_append, List.append_assoc] at hown ⊢
                exact hown
              have HO10 := Lib.hid ((Bs.of_own hown').mono fun b h => Nat.le_trans HB8.out.size h)
              have HC10 := Lib.hid (own_cap hown)
              have HB10 := Lib.hid (HB9.out.grown hgrow HB9.out.size (fun g e => Nat.le_trans HB8.out.size (HOW.out.lt g e).1))
              have HR := Lib.hid (HR.out.grown hgrow (fun e => by have := (HOW.out.lt _ e.symm).1; omega))
              clear hown hown' hgrow hat hx1 hlt1 q0
              have q11 := HR.out.cell 11
              simp at q11
              go_wp2
              simp [bodyPost, results, Tryd.results9, go_sem]
              rw [HEvs.out, HEus.out, HEns.out]
              refine ⟨A10, c10, rfl, ?_, HB10.out⟩
              have h := HO10.out
              simp only [List.append_assoc] at h ⊢
              exact h
set_option maxRecDepth 100000 in
set_option maxHeartbeats 8000000 in
theorem cencode_wide (s : ByteArray) (y mo d h mi se : Int) (me c p z pl DT CK FL : Nat) (lt : Bool) (w : World) (hE : Env w) (hs : s.size ≤ 255) (hc : c < 4294967296) (hk : codeC s (rightB y mo d h mi se) me p z pl = 0) (ht : rightB y mo d h mi se = true) (hD : dateI y mo d = (DT : Nat)) (hC : clockI h mi se = (CK : Nat)) (hF : flagsH s lt = (FL : Nat)) (hD2 : DT < 65536) (hC2 : CK < 65536) (hF2 : FL < 65536) (hp : p ≤ 33554432) (hz : z ≤ 16777216) (hme : me < 65536) (hpl : pl < 4294967296) :
    Calls Tryd.prog 9 #[.agg #[.string s, .int .i64 y, .int .i64 mo, .int .i64 d, .int .i64 h, .int .i64 mi, .int .i64 se, .int .i64 (me : Nat), .int .u32 (c : Nat), .int .i64 (p : Nat), .int .i64 (z : Nat), .bool true, .bool lt, .int .i64 (pl : Nat)]] w (EncQ (74 + s.size) (leB 33639248 4 ++ catK 2 [788, 45, FL, me, CK, DT] ++ catK 4 [c, 4294967295, 4294967295] ++ catK 2 [s.size, 28, 0, 0, 0] ++ leB 2175008768 4 ++ leB 4294967295 4 ++ s.data.toList ++ leB 1 2 ++ leB 24 2 ++ catK 8 [z, p, pl]) w) := by
  have HV : Hid (∀ w, Calls Tryd.prog 22 #[.agg #[.string s, .int .i64 y, .int .i64 mo, .int .i64 d, .int .i64 h, .int .i64 mi, .int .i64 se, .int .i64 (me : Nat), .int .u32 (c : Nat), .int .i64 (p : Nat), .int .i64 (z : Nat), .bool true, .bool lt]] w fun e w' => e = .returned (.int .i64 45) ∧ Below w.heap.size w w') := Lib.hid (fun w => hversion_any s y mo d h mi se me c p z true lt w)
  have HF : Hid (∀ w, Calls Tryd.prog 23 #[.agg #[.string s, .int .i64 y, .int .i64 mo, .int .i64 d, .int .i64 h, .int .i64 mi, .int .i64 se, .int .i64 (me : Nat), .int .u32 (c : Nat), .int .i64 (p : Nat), .int .i64 (z : Nat), .bool true, .bool lt]] w fun e w' => e = .returned (.int .i64 (FL : Nat)) ∧ Below w.heap.size w w') := Lib.hid (fun w => by
    have := hflags_any s y mo d h mi se me c p z true lt w (by omega)
    rwa [hF] at this)
  have HCk : Hid (∀ w, Env w → Calls Tryd.prog 10 #[.agg #[.string s, .int .i64 y, .int .i64 mo, .int .i64 d, .int .i64 h, .int .i64 mi, .int .i64 se, .int .i64 (me : Nat), .int .u32 (c : Nat), .int .i64 (p : Nat), .int .i64 (z : Nat), .bool true, .bool lt, .int .i64 (pl : Nat)]] w fun e w' => e = .returned (.int .i64 0) ∧ Below w.heap.size w w') := Lib.hid (fun w hE => by
    have := ccheck_any s y mo d h mi se me c p z true lt pl w hE
    rwa [hk] at this)
  have HT : Hid (∀ w, Calls Tryd.prog 20 #[tm y mo d h mi se] w fun e w' => e = .returned (.tuple #[.int .u16 (DT : Nat), .int .u16 (CK : Nat), .int .i64 0]) ∧ Below w.heap.size w w' ) := Lib.hid (fun w => by
    have := encode_right y mo d h mi se w ht
    rwa [hD, hC] at this)
  have HE := Lib.hid hE
  clear hE hk ht hD hC hF
  go_enter Tryd.func9, Tryd.ntmps9
  go_wp2_with fail
  obtain ⟨w0, hw0⟩ : ∃ w0, w.alloc (.cells #[.string s, .int .i64 y, .int .i64 mo, .int .i64 d, .int .i64 h, .int .i64 mi, .int .i64 se, .int .i64 (me : Nat), .int .u32 (c : Nat), .int .i64 (p : Nat), .int .i64 (z : Nat), .bool true, .bool lt, .int .i64 (pl : Nat)] 28) = w0 := ⟨_, rfl⟩
  rw [hw0]
  have HW0 : Hid (Below w.heap.size w w0) := Lib.hid (hw0 ▸ (Below.refl _ _).alloc (Nat.le_refl _) _)
  have HR : Hid (Whole w0 w.heap.size 28 #[.string s, .int .i64 y, .int .i64 mo, .int .i64 d, .int .i64 h, .int .i64 mi, .int .i64 se, .int .i64 (me : Nat), .int .u32 (c : Nat), .int .i64 (p : Nat), .int .i64 (z : Nat), .bool true, .bool lt, .int .i64 (pl : Nat)]) := Lib.hid (hw0 ▸ Whole.new w 28 _ rfl)
  clear hw0
  refine (HCk.out w0 (HE.out.below HW0.out)).mono ?_
  rintro e w1 ⟨rfl, hb1⟩
  have HB1 := Lib.hid (HW0.out.trans (hb1.mono HW0.out.size))
  have HR := Lib.hid (HR.out.below' hb1)
  clear hb1 HCk
  have r1 := HR.out.cell 1
  have r2 := HR.out.cell 2
  have r3 := HR.out.cell 3
  have r4 := HR.out.cell 4
  have r5 := HR.out.cell 5
  have r6 := HR.out.cell 6
  simp at r1 r2 r3 r4 r5 r6
  go_wp2_with fail
  refine (HT.out w1).mono ?_
  rintro e w2 ⟨rfl, hb2⟩
  have HB2 := Lib.hid (HB1.out.trans (hb2.mono HB1.out.size))
  have HR := Lib.hid (HR.out.below' hb2)
  clear hb2 HT r1 r2 r3 r4 r5 r6
  have r9 := HR.out.cell 9
  have r10 := HR.out.cell 10
  have r13 := HR.out.cell 13
  simp at r9 r10 r13
  go_wp2_with fail
  go_quiet (fail)
  obtain ⟨wq, hwq⟩ : ∃ x, w2.drewN nq = x := ⟨_, rfl⟩
  rw [hwq]
  have HB2 : Hid (Below w.heap.size w wq) := Lib.hid (hwq ▸ HB2.out.drewN' nq)
  have HR : Hid (Whole wq w.heap.size 28 #[.string s, .int .i64 y, .int .i64 mo, .int .i64 d, .int .i64 h, .int .i64 mi, .int .i64 se, .int .i64 (me : Nat), .int .u32 (c : Nat), .int .i64 (p : Nat), .int .i64 (z : Nat), .bool true, .bool lt, .int .i64 (pl : Nat)]) := Lib.hid (hwq ▸ HR.out.drewN nq)
  clear hwq r9 r10 r13
  have r11 := HR.out.cell 11
  simp at r11
  go_wp2_with fail
  refine (append_right none 0 0 [] (fun _ => True) 4 33639248 wq (Bs.empty _ _ _) (by omega) (by omega) (by omega) (by omega)).mono ?_
  rintro e w3 ⟨A3, c3, rfl, ho, hb3⟩
  have HO3 := Lib.hid ((Bs.of_own ho).mono fun b h => Nat.le_trans HB2.out.size h)
  have HB3 := Lib.hid (HB2.out.trans (hb3.mono HB2.out.size))
  have HR := Lib.hid (HR.out.below' hb3)
  clear ho hb3 r11
  go_wp2_with fail
  have r0 := fun mm => (HR.out.below' (World.over_below w3 mm)).cell 0
  have r1 := fun mm => (HR.out.below' (World.over_below w3 mm)).cell 1
  have r2 := fun mm => (HR.out.below' (World.over_below w3 mm)).cell 2
  have r3 := fun mm => (HR.out.below' (World.over_below w3 mm)).cell 3
  have r4 := fun mm => (HR.out.below' (World.over_below w3 mm)).cell 4
  have r5 := fun mm => (HR.out.below' (World.over_below w3 mm)).cell 5
  have r6 := fun mm => (HR.out.below' (World.over_below w3 mm)).cell 6
  have r7 := fun mm => (HR.out.below' (World.over_below w3 mm)).cell 7
  have r8 := fun mm => (HR.out.below' (World.over_below w3 mm)).cell 8
  have r9 := fun mm => (HR.out.below' (World.over_below w3 mm)).cell 9
  have r10 := fun mm => (HR.out.below' (World.over_below w3 mm)).cell 10
  have r11 := fun mm => (HR.out.below' (World.over_below w3 mm)).cell 11
  have r12 := fun mm => (HR.out.below' (World.over_below w3 mm)).cell 12
  simp at r0 r1 r2 r3 r4 r5 r6 r7 r8 r9 r10 r11 r12
  refine wp_region_free2 (mk := fun j => [2, 5].any (Nat.beq j)) (by kernel_rfl) (by kernel_rfl) (by kernel_rfl) ?_
  iterate 2 (first | ((with_reducible refine vfree_skip rfl ?_ ?_); (focus rfl); intro K hK; go_big_quiet_op; go_big_quiet_on) | ((with_reducible refine vfree_hard ?_ ?_ ?_); (focus rfl); (focus rfl); intro K hK; go_big_quiet_op; go_big_quiet_on))
  refine vfree_one (.int .i64 45) rfl rfl rfl (fun w' hw' => ?_) ?_
  · have hb := hw'.1.below
    go_simp
    all_goals exact (HV.out w').mono fun _ _ ⟨h1, h2⟩ => ⟨h1, h2⟩
  intro K hK
  go_big_quiet_op
  go_big_quiet_on
  iterate 2 (first | ((with_reducible refine vfree_skip rfl ?_ ?_); (focus rfl); intro K hK; go_big_quiet_op; go_big_quiet_on) | ((with_reducible refine vfree_hard ?_ ?_ ?_); (focus rfl); (focus rfl); intro K hK; go_big_quiet_op; go_big_quiet_on))
  refine vfree_one (.int .i64 (FL : Nat)) rfl rfl rfl (fun w' hw' => ?_) ?_
  · have hb := hw'.1.below
    go_simp
    all_goals exact (HF.out w').mono fun _ _ ⟨h1, h2⟩ => ⟨h1, h2⟩
  intro K hK
  go_big_quiet_op
  go_big_quiet_on
  iterate 7 (first | ((with_reducible refine vfree_skip rfl ?_ ?_); (focus rfl); intro K hK; go_big_quiet_op; go_big_quiet_on) | ((with_reducible refine vfree_hard ?_ ?_ ?_); (focus rfl); (focus rfl); intro K hK; go_big_quiet_op; go_big_quiet_on))
  refine vfree_soft (ι := Nat) (fun i => .slice (some ⟨i, 0, none⟩) 6 6) (fun i w' => w3.heap.size ≤ i ∧ Whole w' i 3 #[.int .i64 788, .int .i64 45, .int .i64 (FL : Nat), .int .i64 (me : Nat), .int .i64 (CK : Nat), .int .i64 (DT : Nat)]) rfl rfl rfl (fun _ => fun _ _ h he => ⟨h.1, h.2.below' he⟩) (fun w' hw' => ?_) (fun T => ?_)
  · have hb := hw'.1.below
    clear hw'
    go_simp
    exact ⟨(Below.refl _ _).alloc (Nat.le_refl _) _, w'.heap.size, rfl, hb.size, Whole.new w' 3 _ rfl⟩
  intro K hK
  go_big_quiet_op
  go_big_quiet_on
  iterate 2 (first | ((with_reducible refine vfree_skip rfl ?_ ?_); (focus rfl); intro K hK; go_big_quiet_op; go_big_quiet_on) | ((with_reducible refine vfree_hard ?_ ?_ ?_); (focus rfl); (focus rfl); intro K hK; go_big_quiet_op; go_big_quiet_on))
  refine vfree_nil ?_
  intro w4 hb4 hk4
  have HS4 := Lib.hid (show w3.heap.size ≤ T ∧ Whole w4 T 3 #[.int .i64 788, .int .i64 45, .int .i64 (FL : Nat), .int .i64 (me : Nat), .int .i64 (CK : Nat), .int .i64 (DT : Nat)] from by have h := hk4 13; simpa [upd] using h).2
  have HB4 := Lib.hid (HB3.out.trans (hb4.mono HB3.out.size))
  have HO4 := Lib.hid (HO3.out.below hb4)
  have HR := Lib.hid (HR.out.below' hb4)
  clear hk4 hb4 r0 r1 r2 r3 r4 r5 r6 r7 r8 r9 r10 r11 r12
  obtain ⟨vs, hvs⟩ : ∃ vs : List Nat, [788, 45, FL, me, CK, DT] = vs := ⟨_, rfl⟩
  have hvl : vs.length = 6 := by rw [← hvs]; rfl
  have HS : Hid (Whole w4 T 3 (vs.map fun x => Value.int .i64 (x : Nat)).toArray) := Lib.hid (by rw [← hvs]; exact HS4.out)
  have HVS : Hid (∀ x ∈ vs, x < 9223372036854775808) := Lib.hid (by rw [← hvs]; simp <;> omega)
  have HEvs := Lib.hid hvs
  clear hvs HS4
  go_wp2_with fail
  go_loopw [12, 61] (fun b i wr => ∃ (j : Nat) (A' : Option Addr) (c' : Nat), j ≤ 6 ∧ i = .int .i64 (j : Nat) ∧ b = .slice A' (4 + 2 * j) c' ∧ Hid (Bs wr (fun q => w.heap.size ≤ q) A' (4 + 2 * j) (leB 33639248 4 ++ catK 2 (vs.take j))) ∧ Hid (Below w4.heap.size w4 wr)) (fun _ i _ => 6 - (intOf i).toNat)
  case atStart => exact ⟨0, A3, c3, Nat.zero_le _, rfl, rfl, Lib.hid (by simpa [catK] using HO4.out), Lib.hid (Below.refl _ _)⟩
  case round =>
    obtain ⟨j, A', c', hj, rfl, rfl, HOj, HBj⟩ := hrel
    by_cases hlt : j < 6
    · have h1 : (0 : Int) ≤ (j : Int) := by omega
      have h2 : (j : Int) < 6 := by omega
      have h3 : ((j : Int)).toNat = j := by omega
      obtain ⟨x, hx⟩ : ∃ x, vs.getD j 0 = x := ⟨_, rfl⟩
      have hc := (HS.out.below' HBj.out).cell j
      have hxl : x < 9223372036854775808 := by rw [← hx]; exact getD_lt (by omega) HVS.out j
      have hc' : wr.cell? ⟨T, j, none⟩ = some (.int .i64 (x : Nat)) := by rw [hc, ← hx]; exact vals_at vs j (by omega)
      clear hc
      have kx : IntKind.u64.wrap (x : Int) = (x : Int) := IntWalk.u64_in _ (by omega)
      have HX := Lib.hid hx
      clear hx
      go_wp2_with fail
      refine (append_right A' (4 + 2 * j) c' _ _ 2 x wr HOj.out (by omega) (by omega) (by omega) (by omega)).mono ?_
      rintro e wy ⟨A9, c9, rfl, ho, hb⟩
      have hsz : w.heap.size ≤ wr.heap.size := Nat.le_trans HB4.out.size HBj.out.size
      have HO9 : Hid (Bs wy (fun q => w.heap.size ≤ q) A9 (4 + 2 * (j + 1)) (leB 33639248 4 ++ catK 2 (vs.take (j + 1)))) := Lib.hid (by
        have h := (Bs.of_own ho).mono fun b h => Nat.le_trans hsz h
        rw [catK_take 2 vs j (by omega), HX.out, ← List.append_assoc]
        exact h)
      have HB9 := Lib.hid (HBj.out.trans (hb.mono HBj.out.size))
      have en : 4 + 2 * j + 2 = 4 + 2 * (j + 1) := by omega
      rw [en]
      clear ho hb en
      go_wp2
      first
        | exact ⟨⟨j + 1, A9, c9, by omega, by simp, rfl, HO9, HB9⟩, by simp only [intOf]; omega⟩
        | exact ⟨⟨_, ⟨j + 1, A9, c9, by omega, by simp, rfl, HO9, HB9⟩, rfl⟩, by show 6 - ((j : Int) + 1).toNat < 6 - ((j : Int)).toNat; omega⟩
        | exact ⟨⟨_, _, ⟨j + 1, A9, c9, by omega, by simp, rfl, HO9, HB9⟩, rfl⟩, by show 6 - ((j : Int) + 1).toNat < 6 - ((j : Int)).toNat; omega⟩
        | exact ⟨⟨_, _, _, ⟨j + 1, A9, c9, by omega, by simp, rfl, HO9, HB9⟩, rfl⟩, by show 6 - ((j : Int) + 1).toNat < 6 - ((j : Int)).toNat; omega⟩
        | exact ⟨⟨_, _, _, _, ⟨j + 1, A9, c9, by omega, by simp, rfl, HO9, HB9⟩, rfl⟩, by show 6 - ((j : Int) + 1).toNat < 6 - ((j : Int)).toNat; omega⟩
        | exact ⟨⟨_, _, _, _, _, ⟨j + 1, A9, c9, by omega, by simp, rfl, HO9, HB9⟩, rfl⟩, by show 6 - ((j : Int) + 1).toNat < 6 - ((j : Int)).toNat; omega⟩
        | exact ⟨⟨_, _, _, _, _, _, ⟨j + 1, A9, c9, by omega, by simp, rfl, HO9, HB9⟩, rfl⟩, by show 6 - ((j : Int) + 1).toNat < 6 - ((j : Int)).toNat; omega⟩
        | exact ⟨⟨_, _, _, _, _, _, _, ⟨j + 1, A9, c9, by omega, by simp, rfl, HO9, HB9⟩, rfl⟩, by show 6 - ((j : Int) + 1).toNat < 6 - ((j : Int)).toNat; omega⟩
        | exact ⟨⟨_, _, _, _, _, _, _, _, ⟨j + 1, A9, c9, by omega, by simp, rfl, HO9, HB9⟩, rfl⟩, by show 6 - ((j : Int) + 1).toNat < 6 - ((j : Int)).toNat; omega⟩
        | exact ⟨⟨_, _, _, _, _, _, _, _, _, ⟨j + 1, A9, c9, by omega, by simp, rfl, HO9, HB9⟩, rfl⟩, by show 6 - ((j : Int) + 1).toNat < 6 - ((j : Int)).toNat; omega⟩
        | exact ⟨⟨_, _, _, _, _, _, _, _, _, _, ⟨j + 1, A9, c9, by omega, by simp, rfl, HO9, HB9⟩, rfl⟩, by show 6 - ((j : Int) + 1).toNat < 6 - ((j : Int)).toNat; omega⟩
        | exact ⟨⟨_, _, _, _, _, _, _, _, _, _, _, ⟨j + 1, A9, c9, by omega, by simp, rfl, HO9, HB9⟩, rfl⟩, by show 6 - ((j : Int) + 1).toNat < 6 - ((j : Int)).toNat; omega⟩
        | exact ⟨⟨_, _, _, _, _, _, _, _, _, _, _, _, ⟨j + 1, A9, c9, by omega, by simp, rfl, HO9, HB9⟩, rfl⟩, by show 6 - ((j : Int) + 1).toNat < 6 - ((j : Int)).toNat; omega⟩
        | exact ⟨⟨_, _, _, _, _, _, _, _, _, _, _, _, _, ⟨j + 1, A9, c9, by omega, by simp, rfl, HO9, HB9⟩, rfl⟩, by show 6 - ((j : Int) + 1).toNat < 6 - ((j : Int)).toNat; omega⟩
        | exact ⟨⟨_, _, _, _, _, _, _, _, _, _, _, _, _, _, ⟨j + 1, A9, c9, by omega, by simp, rfl, HO9, HB9⟩, rfl⟩, by show 6 - ((j : Int) + 1).toNat < 6 - ((j : Int)).toNat; omega⟩
        | exact ⟨⟨_, _, _, _, _, _, _, _, _, _, _, _, _, _, _, ⟨j + 1, A9, c9, by omega, by simp, rfl, HO9, HB9⟩, rfl⟩, by show 6 - ((j : Int) + 1).toNat < 6 - ((j : Int)).toNat; omega⟩
        | exact ⟨⟨_, _, _, _, _, _, _, _, _, _, _, _, _, _, _, _, ⟨j + 1, A9, c9, by omega, by simp, rfl, HO9, HB9⟩, rfl⟩, by show 6 - ((j : Int) + 1).toNat < 6 - ((j : Int)).toNat; omega⟩
        | exact ⟨⟨_, _, _, _, _, _, _, _, _, _, _, _, _, _, _, _, _, ⟨j + 1, A9, c9, by omega, by simp, rfl, HO9, HB9⟩, rfl⟩, by show 6 - ((j : Int) + 1).toNat < 6 - ((j : Int)).toNat; omega⟩
        | exact ⟨⟨_, _, _, _, _, _, _, _, _, _, _, _, _, _, _, _, _, _, ⟨j + 1, A9, c9, by omega, by simp, rfl, HO9, HB9⟩, rfl⟩, by show 6 - ((j : Int) + 1).toNat < 6 - ((j : Int)).toNat; omega⟩
        | exact ⟨⟨_, _, _, _, _, _, _, _, _, _, _, _, _, _, _, _, _, _, _, ⟨j + 1, A9, c9, by omega, by simp, rfl, HO9, HB9⟩, rfl⟩, by show 6 - ((j : Int) + 1).toNat < 6 - ((j : Int)).toNat; omega⟩
        | exact ⟨⟨_, _, _, _, _, _, _, _, _, _, _, _, _, _, _, _, _, _, _, _, ⟨j + 1, A9, c9, by omega, by simp, rfl, HO9, HB9⟩, rfl⟩, by show 6 - ((j : Int) + 1).toNat < 6 - ((j : Int)).toNat; omega⟩
        | exact ⟨⟨_, _, _, _, _, _, _, _, _, _, _, _, _, _, _, _, _, _, _, _, _, ⟨j + 1, A9, c9, by omega, by simp, rfl, HO9, HB9⟩, rfl⟩, by show 6 - ((j : Int) + 1).toNat < 6 - ((j : Int)).toNat; omega⟩
        | exact ⟨⟨_, _, _, _, _, _, _, _, _, _, _, _, _, _, _, _, _, _, _, _, _, _, ⟨j + 1, A9, c9, by omega, by simp, rfl, HO9, HB9⟩, rfl⟩, by show 6 - ((j : Int) + 1).toNat < 6 - ((j : Int)).toNat; omega⟩
        | exact ⟨⟨_, _, _, _, _, _, _, _, _, _, _, _, _, _, _, _, _, _, _, _, _, _, _, ⟨j + 1, A9, c9, by omega, by simp, rfl, HO9, HB9⟩, rfl⟩, by show 6 - ((j : Int) + 1).toNat < 6 - ((j : Int)).toNat; omega⟩
        | exact ⟨⟨_, _, _, _, _, _, _, _, _, _, _, _, _, _, _, _, _, _, _, _, _, _, _, _, ⟨j + 1, A9, c9, by omega, by simp, rfl, HO9, HB9⟩, rfl⟩, by show 6 - ((j : Int) + 1).toNat < 6 - ((j : Int)).toNat; omega⟩
        | exact ⟨⟨_, _, _, _, _, _, _, _, _, _, _, _, _, _, _, _, _, _, _, _, _, _, _, _, _, ⟨j + 1, A9, c9, by omega, by simp, rfl, HO9, HB9⟩, rfl⟩, by show 6 - ((j : Int) + 1).toNat < 6 - ((j : Int)).toNat; omega⟩
        | exact ⟨⟨_, _, _, _, _, _, _, _, _, _, _, _, _, _, _, _, _, _, _, _, _, _, _, _, _, _, ⟨j + 1, A9, c9, by omega, by simp, rfl, HO9, HB9⟩, rfl⟩, by show 6 - ((j : Int) + 1).toNat < 6 - ((j : Int)).toNat; omega⟩
        | exact ⟨⟨_, _, _, _, _, _, _, _, _, _, _, _, _, _, _, _, _, _, _, _, _, _, _, _, _, _, _, ⟨j + 1, A9, c9, by omega, by simp, rfl, HO9, HB9⟩, rfl⟩, by show 6 - ((j : Int) + 1).toNat < 6 - ((j : Int)).toNat; omega⟩
        | exact ⟨⟨_, _, _, _, _, _, _, _, _, _, _, _, _, _, _, _, _, _, _, _, _, _, _, _, _, _, _, _, ⟨j + 1, A9, c9, by omega, by simp, rfl, HO9, HB9⟩, rfl⟩, by show 6 - ((j : Int) + 1).toNat < 6 - ((j : Int)).toNat; omega⟩
        | exact ⟨⟨_, _, _, _, _, _, _, _, _, _, _, _, _, _, _, _, _, _, _, _, _, _, _, _, _, _, _, _, _, ⟨j + 1, A9, c9, by omega, by simp, rfl, HO9, HB9⟩, rfl⟩, by show 6 - ((j : Int) + 1).toNat < 6 - ((j : Int)).toNat; omega⟩
        | exact ⟨⟨_, _, _, _, _, _, _, _, _, _, _, _, _, _, _, _, _, _, _, _, _, _, _, _, _, _, _, _, _, _, ⟨j + 1, A9, c9, by omega, by simp, rfl, HO9, HB9⟩, rfl⟩, by show 6 - ((j : Int) + 1).toNat < 6 - ((j : Int)).toNat; omega⟩
    · have hj' : j = 6 := by omega
      subst hj'
      have HOw5 : Hid (Bs wr (fun q => w.heap.size ≤ q) A' (4 + 2 * 6) (leB 33639248 4 ++ catK 2 vs)) := Lib.hid (by
        have h := HOj.out
        rwa [List.take_of_length_le (by omega)] at h)
      have HBw5 := Lib.hid (HB4.out.trans (HBj.out.mono HB4.out.size))
      have HR := Lib.hid (HR.out.below' HBj.out)
      clear HOj HBj
      have q8 := HR.out.cell 8
      simp at q8
      go_wp2_with fail
      obtain ⟨w6, hw6⟩ : ∃ x, wr.alloc (.cells #[.int .i64 (c : Nat), .int .i64 4294967295, .int .i64 4294967295] 3) = x := ⟨_, rfl⟩
      rw [hw6]
      have hb6 : Below wr.heap.size wr w6 := hw6 ▸ (Below.refl _ _).alloc (Nat.le_refl _) _
      have HBw6 := Lib.hid (HBw5.out.trans (hb6.mono HBw5.out.size))
      have HOw6 := Lib.hid (HOw5.out.below hb6)
      have HR := Lib.hid (HR.out.below' hb6)
      obtain ⟨T2, hT2⟩ : ∃ x, wr.heap.size = x := ⟨_, rfl⟩
      obtain ⟨us, hus⟩ : ∃ us : List Nat, [c, 4294967295, 4294967295] = us := ⟨_, rfl⟩
      have hulus : us.length = 3 := by rw [← hus]; rfl
      have HSw6 : Hid (Whole w6 T2 3 (us.map fun x => Value.int .i64 (x : Nat)).toArray) := Lib.hid (by rw [← hus, ← hw6]; exact Whole.new wr 3 _ hT2.symm)
      have HVus : Hid (∀ x ∈ us, x < 9223372036854775808) := Lib.hid (by rw [← hus]; simp <;> omega)
      have HEus := Lib.hid hus
      rw [hT2]
      clear hus hw6 hb6 hT2
      clear q8
      go_loopw [12, 78] (fun b i wr => ∃ (j : Nat) (A' : Option Addr) (c' : Nat), j ≤ 3 ∧ i = .int .i64 (j : Nat) ∧ b = .slice A' (16 + 4 * j) c' ∧ Hid (Bs wr (fun q => w.heap.size ≤ q) A' (16 + 4 * j) ((leB 33639248 4 ++ catK 2 vs) ++ catK 4 (us.take j))) ∧ Hid (Below w6.heap.size w6 wr)) (fun _ i _ => 3 - (intOf i).toNat)
      case atStart => exact ⟨0, A', c', Nat.zero_le _, rfl, rfl, Lib.hid (by simpa [catK] using HOw6.out), Lib.hid (Below.refl _ _)⟩
      case round =>
        obtain ⟨j, A', c', hj, rfl, rfl, HOj, HBj⟩ := hrel
        by_cases hlt : j < 3
        · have h1 : (0 : Int) ≤ (j : Int) := by omega
          have h2 : (j : Int) < 3 := by omega
          have h3 : ((j : Int)).toNat = j := by omega
          obtain ⟨x, hx⟩ : ∃ x, us.getD j 0 = x := ⟨_, rfl⟩
          have hc := (HSw6.out.below' HBj.out).cell j
          have hxl : x < 9223372036854775808 := by rw [← hx]; exact getD_lt (by omega) HVus.out j
          have hc' : wr.cell? ⟨T2, j, none⟩ = some (.int .i64 (x : Nat)) := by rw [hc, ← hx]; exact vals_at us j (by omega)
          clear hc
          have kx : IntKind.u64.wrap (x : Int) = (x : Int) := IntWalk.u64_in _ (by omega)
          have HX := Lib.hid hx
          clear hx
          go_wp2_with fail
          refine (append_right A' (16 + 4 * j) c' _ _ 4 x wr HOj.out (by omega) (by omega) (by omega) (by omega)).mono ?_
          rintro e wy ⟨A9, c9, rfl, ho, hb⟩
          have hsz : w.heap.size ≤ wr.heap.size := Nat.le_trans HBw6.out.size HBj.out.size
          have HO9 : Hid (Bs wy (fun q => w.heap.size ≤ q) A9 (16 + 4 * (j + 1)) ((leB 33639248 4 ++ catK 2 vs) ++ catK 4 (us.take (j + 1)))) := Lib.hid (by
            have h := (Bs.of_own ho).mono fun b h => Nat.le_trans hsz h
            rw [catK_take 4 us j (by omega), HX.out, ← List.append_assoc]
            exact h)
          have HB9 := Lib.hid (HBj.out.trans (hb.mono HBj.out.size))
          have en : 16 + 4 * j + 4 = 16 + 4 * (j + 1) := by omega
          rw [en]
          clear ho hb en
          go_wp2
          first
            | exact ⟨⟨j + 1, A9, c9, by omega, by simp, rfl, HO9, HB9⟩, by simp only [intOf]; omega⟩
            | exact ⟨⟨_, ⟨j + 1, A9, c9, by omega, by simp, rfl, HO9, HB9⟩, rfl⟩, by show 3 - ((j : Int) + 1).toNat < 3 - ((j : Int)).toNat; omega⟩
            | exact ⟨⟨_, _, ⟨j + 1, A9, c9, by omega, by simp, rfl, HO9, HB9⟩, rfl⟩, by show 3 - ((j : Int) + 1).toNat < 3 - ((j : Int)).toNat; omega⟩
            | exact ⟨⟨_, _, _, ⟨j + 1, A9, c9, by omega, by simp, rfl, HO9, HB9⟩, rfl⟩, by show 3 - ((j : Int) + 1).toNat < 3 - ((j : Int)).toNat; omega⟩
            | exact ⟨⟨_, _, _, _, ⟨j + 1, A9, c9, by omega, by simp, rfl, HO9, HB9⟩, rfl⟩, by show 3 - ((j : Int) + 1).toNat < 3 - ((j : Int)).toNat; omega⟩
            | exact ⟨⟨_, _, _, _, _, ⟨j + 1, A9, c9, by omega, by simp, rfl, HO9, HB9⟩, rfl⟩, by show 3 - ((j : Int) + 1).toNat < 3 - ((j : Int)).toNat; omega⟩
            | exact ⟨⟨_, _, _, _, _, _, ⟨j + 1, A9, c9, by omega, by simp, rfl, HO9, HB9⟩, rfl⟩, by show 3 - ((j : Int) + 1).toNat < 3 - ((j : Int)).toNat; omega⟩
            | exact ⟨⟨_, _, _, _, _, _, _, ⟨j + 1, A9, c9, by omega, by simp, rfl, HO9, HB9⟩, rfl⟩, by show 3 - ((j : Int) + 1).toNat < 3 - ((j : Int)).toNat; omega⟩
            | exact ⟨⟨_, _, _, _, _, _, _, _, ⟨j + 1, A9, c9, by omega, by simp, rfl, HO9, HB9⟩, rfl⟩, by show 3 - ((j : Int) + 1).toNat < 3 - ((j : Int)).toNat; omega⟩
            | exact ⟨⟨_, _, _, _, _, _, _, _, _, ⟨j + 1, A9, c9, by omega, by simp, rfl, HO9, HB9⟩, rfl⟩, by show 3 - ((j : Int) + 1).toNat < 3 - ((j : Int)).toNat; omega⟩
            | exact ⟨⟨_, _, _, _, _, _, _, _, _, _, ⟨j + 1, A9, c9, by omega, by simp, rfl, HO9, HB9⟩, rfl⟩, by show 3 - ((j : Int) + 1).toNat < 3 - ((j : Int)).toNat; omega⟩
            | exact ⟨⟨_, _, _, _, _, _, _, _, _, _, _, ⟨j + 1, A9, c9, by omega, by simp, rfl, HO9, HB9⟩, rfl⟩, by show 3 - ((j : Int) + 1).toNat < 3 - ((j : Int)).toNat; omega⟩
            | exact ⟨⟨_, _, _, _, _, _, _, _, _, _, _, _, ⟨j + 1, A9, c9, by omega, by simp, rfl, HO9, HB9⟩, rfl⟩, by show 3 - ((j : Int) + 1).toNat < 3 - ((j : Int)).toNat; omega⟩
            | exact ⟨⟨_, _, _, _, _, _, _, _, _, _, _, _, _, ⟨j + 1, A9, c9, by omega, by simp, rfl, HO9, HB9⟩, rfl⟩, by show 3 - ((j : Int) + 1).toNat < 3 - ((j : Int)).toNat; omega⟩
            | exact ⟨⟨_, _, _, _, _, _, _, _, _, _, _, _, _, _, ⟨j + 1, A9, c9, by omega, by simp, rfl, HO9, HB9⟩, rfl⟩, by show 3 - ((j : Int) + 1).toNat < 3 - ((j : Int)).toNat; omega⟩
            | exact ⟨⟨_, _, _, _, _, _, _, _, _, _, _, _, _, _, _, ⟨j + 1, A9, c9, by omega, by simp, rfl, HO9, HB9⟩, rfl⟩, by show 3 - ((j : Int) + 1).toNat < 3 - ((j : Int)).toNat; omega⟩
            | exact ⟨⟨_, _, _, _, _, _, _, _, _, _, _, _, _, _, _, _, ⟨j + 1, A9, c9, by omega, by simp, rfl, HO9, HB9⟩, rfl⟩, by show 3 - ((j : Int) + 1).toNat < 3 - ((j : Int)).toNat; omega⟩
            | exact ⟨⟨_, _, _, _, _, _, _, _, _, _, _, _, _, _, _, _, _, ⟨j + 1, A9, c9, by omega, by simp, rfl, HO9, HB9⟩, rfl⟩, by show 3 - ((j : Int) + 1).toNat < 3 - ((j : Int)).toNat; omega⟩
            | exact ⟨⟨_, _, _, _, _, _, _, _, _, _, _, _, _, _, _, _, _, _, ⟨j + 1, A9, c9, by omega, by simp, rfl, HO9, HB9⟩, rfl⟩, by show 3 - ((j : Int) + 1).toNat < 3 - ((j : Int)).toNat; omega⟩
            | exact ⟨⟨_, _, _, _, _, _, _, _, _, _, _, _, _, _, _, _, _, _, _, ⟨j + 1, A9, c9, by omega, by simp, rfl, HO9, HB9⟩, rfl⟩, by show 3 - ((j : Int) + 1).toNat < 3 - ((j : Int)).toNat; omega⟩
            | exact ⟨⟨_, _, _, _, _, _, _, _, _, _, _, _, _, _, _, _, _, _, _, _, ⟨j + 1, A9, c9, by omega, by simp, rfl, HO9, HB9⟩, rfl⟩, by show 3 - ((j : Int) + 1).toNat < 3 - ((j : Int)).toNat; omega⟩
            | exact ⟨⟨_, _, _, _, _, _, _, _, _, _, _, _, _, _, _, _, _, _, _, _, _, ⟨j + 1, A9, c9, by omega, by simp, rfl, HO9, HB9⟩, rfl⟩, by show 3 - ((j : Int) + 1).toNat < 3 - ((j : Int)).toNat; omega⟩
            | exact ⟨⟨_, _, _, _, _, _, _, _, _, _, _, _, _, _, _, _, _, _, _, _, _, _, ⟨j + 1, A9, c9, by omega, by simp, rfl, HO9, HB9⟩, rfl⟩, by show 3 - ((j : Int) + 1).toNat < 3 - ((j : Int)).toNat; omega⟩
            | exact ⟨⟨_, _, _, _, _, _, _, _, _, _, _, _, _, _, _, _, _, _, _, _, _, _, _, ⟨j + 1, A9, c9, by omega, by simp, rfl, HO9, HB9⟩, rfl⟩, by show 3 - ((j : Int) + 1).toNat < 3 - ((j : Int)).toNat; omega⟩
            | exact ⟨⟨_, _, _, _, _, _, _, _, _, _, _, _, _, _, _, _, _, _, _, _, _, _, _, _, ⟨j + 1, A9, c9, by omega, by simp, rfl, HO9, HB9⟩, rfl⟩, by show 3 - ((j : Int) + 1).toNat < 3 - ((j : Int)).toNat; omega⟩
            | exact ⟨⟨_, _, _, _, _, _, _, _, _, _, _, _, _, _, _, _, _, _, _, _, _, _, _, _, _, ⟨j + 1, A9, c9, by omega, by simp, rfl, HO9, HB9⟩, rfl⟩, by show 3 - ((j : Int) + 1).toNat < 3 - ((j : Int)).toNat; omega⟩
            | exact ⟨⟨_, _, _, _, _, _, _, _, _, _, _, _, _, _, _, _, _, _, _, _, _, _, _, _, _, _, ⟨j + 1, A9, c9, by omega, by simp, rfl, HO9, HB9⟩, rfl⟩, by show 3 - ((j : Int) + 1).toNat < 3 - ((j : Int)).toNat; omega⟩
            | exact ⟨⟨_, _, _, _, _, _, _, _, _, _, _, _, _, _, _, _, _, _, _, _, _, _, _, _, _, _, _, ⟨j + 1, A9, c9, by omega, by simp, rfl, HO9, HB9⟩, rfl⟩, by show 3 - ((j : Int) + 1).toNat < 3 - ((j : Int)).toNat; omega⟩
            | exact ⟨⟨_, _, _, _, _, _, _, _, _, _, _, _, _, _, _, _, _, _, _, _, _, _, _, _, _, _, _, _, ⟨j + 1, A9, c9, by omega, by simp, rfl, HO9, HB9⟩, rfl⟩, by show 3 - ((j : Int) + 1).toNat < 3 - ((j : Int)).toNat; omega⟩
            | exact ⟨⟨_, _, _, _, _, _, _, _, _, _, _, _, _, _, _, _, _, _, _, _, _, _, _, _, _, _, _, _, _, ⟨j + 1, A9, c9, by omega, by simp, rfl, HO9, HB9⟩, rfl⟩, by show 3 - ((j : Int) + 1).toNat < 3 - ((j : Int)).toNat; omega⟩
            | exact ⟨⟨_, _, _, _, _, _, _, _, _, _, _, _, _, _, _, _, _, _, _, _, _, _, _, _, _, _, _, _, _, _, ⟨j + 1, A9, c9, by omega, by simp, rfl, HO9, HB9⟩, rfl⟩, by show 3 - ((j : Int) + 1).toNat < 3 - ((j : Int)).toNat; omega⟩
        · have hj' : j = 3 := by omega
          subst hj'
          have HOw7 : Hid (Bs wr (fun q => w.heap.size ≤ q) A' (16 + 4 * 3) ((leB 33639248 4 ++ catK 2 vs) ++ catK 4 us)) := Lib.hid (by
            have h := HOj.out
            rwa [List.take_of_length_le (by omega)] at h)
          have HBw7 := Lib.hid (HBw6.out.trans (HBj.out.mono HBw6.out.size))
          have HR := Lib.hid (HR.out.below' HBj.out)
          clear HOj HBj
          have q0 := HR.out.cell 0
          simp at q0
          go_wp2_with fail
          obtain ⟨w8, hw6⟩ : ∃ x, wr.alloc (.cells #[.int .i64 (s.size : Nat), .int .i64 28, .int .i64 0, .int .i64 0, .int .i64 0] 3) = x := ⟨_, rfl⟩
          rw [hw6]
          have hb6 : Below wr.heap.size wr w8 := hw6 ▸ (Below.refl _ _).alloc (Nat.le_refl _) _
          have HBw8 := Lib.hid (HBw7.out.trans (hb6.mono HBw7.out.size))
          have HOw8 := Lib.hid (HOw7.out.below hb6)
          have HR := Lib.hid (HR.out.below' hb6)
          obtain ⟨T3, hT2⟩ : ∃ x, wr.heap.size = x := ⟨_, rfl⟩
          obtain ⟨ns, hus⟩ : ∃ us : List Nat, [s.size, 28, 0, 0, 0] = us := ⟨_, rfl⟩
          have hulns : ns.length = 5 := by rw [← hus]; rfl
          have HSw8 : Hid (Whole w8 T3 3 (ns.map fun x => Value.int .i64 (x : Nat)).toArray) := Lib.hid (by rw [← hus, ← hw6]; exact Whole.new wr 3 _ hT2.symm)
          have HVns : Hid (∀ x ∈ ns, x < 9223372036854775808) := Lib.hid (by rw [← hus]; simp <;> omega)
          have HEns := Lib.hid hus
          rw [hT2]
          clear hus hw6 hb6 hT2
          clear q0
          go_loopw [12, 94] (fun b i wr => ∃ (j : Nat) (A' : Option Addr) (c' : Nat), j ≤ 5 ∧ i = .int .i64 (j : Nat) ∧ b = .slice A' (28 + 2 * j) c' ∧ Hid (Bs wr (fun q => w.heap.size ≤ q) A' (28 + 2 * j) ((leB 33639248 4 ++ catK 2 vs ++ catK 4 us) ++ catK 2 (ns.take j))) ∧ Hid (Below w8.heap.size w8 wr)) (fun _ i _ => 5 - (intOf i).toNat)
          case atStart => exact ⟨0, A', c', Nat.zero_le _, rfl, rfl, Lib.hid (by simpa [catK] using HOw8.out), Lib.hid (Below.refl _ _)⟩
          case round =>
            obtain ⟨j, A', c', hj, rfl, rfl, HOj, HBj⟩ := hrel
            by_cases hlt : j < 5
            · have h1 : (0 : Int) ≤ (j : Int) := by omega
              have h2 : (j : Int) < 5 := by omega
              have h3 : ((j : Int)).toNat = j := by omega
              obtain ⟨x, hx⟩ : ∃ x, ns.getD j 0 = x := ⟨_, rfl⟩
              have hc := (HSw8.out.below' HBj.out).cell j
              have hxl : x < 9223372036854775808 := by rw [← hx]; exact getD_lt (by omega) HVns.out j
              have hc' : wr.cell? ⟨T3, j, none⟩ = some (.int .i64 (x : Nat)) := by rw [hc, ← hx]; exact vals_at ns j (by omega)
              clear hc
              have kx : IntKind.u64.wrap (x : Int) = (x : Int) := IntWalk.u64_in _ (by omega)
              have HX := Lib.hid hx
              clear hx
              go_wp2_with fail
              refine (append_right A' (28 + 2 * j) c' _ _ 2 x wr HOj.out (by omega) (by omega) (by omega) (by omega)).mono ?_
              rintro e wy ⟨A9, c9, rfl, ho, hb⟩
              have hsz : w.heap.size ≤ wr.heap.size := Nat.le_trans HBw8.out.size HBj.out.size
              have HO9 : Hid (Bs wy (fun q => w.heap.size ≤ q) A9 (28 + 2 * (j + 1)) ((leB 33639248 4 ++ catK 2 vs ++ catK 4 us) ++ catK 2 (ns.take (j + 1)))) := Lib.hid (by
                have h := (Bs.of_own ho).mono fun b h => Nat.le_trans hsz h
                rw [catK_take 2 ns j (by omega), HX.out, ← List.append_assoc]
                exact h)
              have HB9 := Lib.hid (HBj.out.trans (hb.mono HBj.out.size))
              have en : 28 + 2 * j + 2 = 28 + 2 * (j + 1) := by omega
              rw [en]
              clear ho hb en
              go_wp2
              first
                | exact ⟨⟨j + 1, A9, c9, by omega, by simp, rfl, HO9, HB9⟩, by simp only [intOf]; omega⟩
                | exact ⟨⟨_, ⟨j + 1, A9, c9, by omega, by simp, rfl, HO9, HB9⟩, rfl⟩, by show 5 - ((j : Int) + 1).toNat < 5 - ((j : Int)).toNat; omega⟩
                | exact ⟨⟨_, _, ⟨j + 1, A9, c9, by omega, by simp, rfl, HO9, HB9⟩, rfl⟩, by show 5 - ((j : Int) + 1).toNat < 5 - ((j : Int)).toNat; omega⟩
                | exact ⟨⟨_, _, _, ⟨j + 1, A9, c9, by omega, by simp, rfl, HO9, HB9⟩, rfl⟩, by show 5 - ((j : Int) + 1).toNat < 5 - ((j : Int)).toNat; omega⟩
                | exact ⟨⟨_, _, _, _, ⟨j + 1, A9, c9, by omega, by simp, rfl, HO9, HB9⟩, rfl⟩, by show 5 - ((j : Int) + 1).toNat < 5 - ((j : Int)).toNat; omega⟩
                | exact ⟨⟨_, _, _, _, _, ⟨j + 1, A9, c9, by omega, by simp, rfl, HO9, HB9⟩, rfl⟩, by show 5 - ((j : Int) + 1).toNat < 5 - ((j : Int)).toNat; omega⟩
                | exact ⟨⟨_, _, _, _, _, _, ⟨j + 1, A9, c9, by omega, by simp, rfl, HO9, HB9⟩, rfl⟩, by show 5 - ((j : Int) + 1).toNat < 5 - ((j : Int)).toNat; omega⟩
                | exact ⟨⟨_, _, _, _, _, _, _, ⟨j + 1, A9, c9, by omega, by simp, rfl, HO9, HB9⟩, rfl⟩, by show 5 - ((j : Int) + 1).toNat < 5 - ((j : Int)).toNat; omega⟩
                | exact ⟨⟨_, _, _, _, _, _, _, _, ⟨j + 1, A9, c9, by omega, by simp, rfl, HO9, HB9⟩, rfl⟩, by show 5 - ((j : Int) + 1).toNat < 5 - ((j : Int)).toNat; omega⟩
                | exact ⟨⟨_, _, _, _, _, _, _, _, _, ⟨j + 1, A9, c9, by omega, by simp, rfl, HO9, HB9⟩, rfl⟩, by show 5 - ((j : Int) + 1).toNat < 5 - ((j : Int)).toNat; omega⟩
                | exact ⟨⟨_, _, _, _, _, _, _, _, _, _, ⟨j + 1, A9, c9, by omega, by simp, rfl, HO9, HB9⟩, rfl⟩, by show 5 - ((j : Int) + 1).toNat < 5 - ((j : Int)).toNat; omega⟩
                | exact ⟨⟨_, _, _, _, _, _, _, _, _, _, _, ⟨j + 1, A9, c9, by omega, by simp, rfl, HO9, HB9⟩, rfl⟩, by show 5 - ((j : Int) + 1).toNat < 5 - ((j : Int)).toNat; omega⟩
                | exact ⟨⟨_, _, _, _, _, _, _, _, _, _, _, _, ⟨j + 1, A9, c9, by omega, by simp, rfl, HO9, HB9⟩, rfl⟩, by show 5 - ((j : Int) + 1).toNat < 5 - ((j : Int)).toNat; omega⟩
                | exact ⟨⟨_, _, _, _, _, _, _, _, _, _, _, _, _, ⟨j + 1, A9, c9, by omega, by simp, rfl, HO9, HB9⟩, rfl⟩, by show 5 - ((j : Int) + 1).toNat < 5 - ((j : Int)).toNat; omega⟩
                | exact ⟨⟨_, _, _, _, _, _, _, _, _, _, _, _, _, _, ⟨j + 1, A9, c9, by omega, by simp, rfl, HO9, HB9⟩, rfl⟩, by show 5 - ((j : Int) + 1).toNat < 5 - ((j : Int)).toNat; omega⟩
                | exact ⟨⟨_, _, _, _, _, _, _, _, _, _, _, _, _, _, _, ⟨j + 1, A9, c9, by omega, by simp, rfl, HO9, HB9⟩, rfl⟩, by show 5 - ((j : Int) + 1).toNat < 5 - ((j : Int)).toNat; omega⟩
                | exact ⟨⟨_, _, _, _, _, _, _, _, _, _, _, _, _, _, _, _, ⟨j + 1, A9, c9, by omega, by simp, rfl, HO9, HB9⟩, rfl⟩, by show 5 - ((j : Int) + 1).toNat < 5 - ((j : Int)).toNat; omega⟩
                | exact ⟨⟨_, _, _, _, _, _, _, _, _, _, _, _, _, _, _, _, _, ⟨j + 1, A9, c9, by omega, by simp, rfl, HO9, HB9⟩, rfl⟩, by show 5 - ((j : Int) + 1).toNat < 5 - ((j : Int)).toNat; omega⟩
                | exact ⟨⟨_, _, _, _, _, _, _, _, _, _, _, _, _, _, _, _, _, _, ⟨j + 1, A9, c9, by omega, by simp, rfl, HO9, HB9⟩, rfl⟩, by show 5 - ((j : Int) + 1).toNat < 5 - ((j : Int)).toNat; omega⟩
                | exact ⟨⟨_, _, _, _, _, _, _, _, _, _, _, _, _, _, _, _, _, _, _, ⟨j + 1, A9, c9, by omega, by simp, rfl, HO9, HB9⟩, rfl⟩, by show 5 - ((j : Int) + 1).toNat < 5 - ((j : Int)).toNat; omega⟩
                | exact ⟨⟨_, _, _, _, _, _, _, _, _, _, _, _, _, _, _, _, _, _, _, _, ⟨j + 1, A9, c9, by omega, by simp, rfl, HO9, HB9⟩, rfl⟩, by show 5 - ((j : Int) + 1).toNat < 5 - ((j : Int)).toNat; omega⟩
                | exact ⟨⟨_, _, _, _, _, _, _, _, _, _, _, _, _, _, _, _, _, _, _, _, _, ⟨j + 1, A9, c9, by omega, by simp, rfl, HO9, HB9⟩, rfl⟩, by show 5 - ((j : Int) + 1).toNat < 5 - ((j : Int)).toNat; omega⟩
                | exact ⟨⟨_, _, _, _, _, _, _, _, _, _, _, _, _, _, _, _, _, _, _, _, _, _, ⟨j + 1, A9, c9, by omega, by simp, rfl, HO9, HB9⟩, rfl⟩, by show 5 - ((j : Int) + 1).toNat < 5 - ((j : Int)).toNat; omega⟩
                | exact ⟨⟨_, _, _, _, _, _, _, _, _, _, _, _, _, _, _, _, _, _, _, _, _, _, _, ⟨j + 1, A9, c9, by omega, by simp, rfl, HO9, HB9⟩, rfl⟩, by show 5 - ((j : Int) + 1).toNat < 5 - ((j : Int)).toNat; omega⟩
                | exact ⟨⟨_, _, _, _, _, _, _, _, _, _, _, _, _, _, _, _, _, _, _, _, _, _, _, _, ⟨j + 1, A9, c9, by omega, by simp, rfl, HO9, HB9⟩, rfl⟩, by show 5 - ((j : Int) + 1).toNat < 5 - ((j : Int)).toNat; omega⟩
                | exact ⟨⟨_, _, _, _, _, _, _, _, _, _, _, _, _, _, _, _, _, _, _, _, _, _, _, _, _, ⟨j + 1, A9, c9, by omega, by simp, rfl, HO9, HB9⟩, rfl⟩, by show 5 - ((j : Int) + 1).toNat < 5 - ((j : Int)).toNat; omega⟩
                | exact ⟨⟨_, _, _, _, _, _, _, _, _, _, _, _, _, _, _, _, _, _, _, _, _, _, _, _, _, _, ⟨j + 1, A9, c9, by omega, by simp, rfl, HO9, HB9⟩, rfl⟩, by show 5 - ((j : Int) + 1).toNat < 5 - ((j : Int)).toNat; omega⟩
                | exact ⟨⟨_, _, _, _, _, _, _, _, _, _, _, _, _, _, _, _, _, _, _, _, _, _, _, _, _, _, _, ⟨j + 1, A9, c9, by omega, by simp, rfl, HO9, HB9⟩, rfl⟩, by show 5 - ((j : Int) + 1).toNat < 5 - ((j : Int)).toNat; omega⟩
                | exact ⟨⟨_, _, _, _, _, _, _, _, _, _, _, _, _, _, _, _, _, _, _, _, _, _, _, _, _, _, _, _, ⟨j + 1, A9, c9, by omega, by simp, rfl, HO9, HB9⟩, rfl⟩, by show 5 - ((j : Int) + 1).toNat < 5 - ((j : Int)).toNat; omega⟩
                | exact ⟨⟨_, _, _, _, _, _, _, _, _, _, _, _, _, _, _, _, _, _, _, _, _, _, _, _, _, _, _, _, _, ⟨j + 1, A9, c9, by omega, by simp, rfl, HO9, HB9⟩, rfl⟩, by show 5 - ((j : Int) + 1).toNat < 5 - ((j : Int)).toNat; omega⟩
                | exact ⟨⟨_, _, _, _, _, _, _, _, _, _, _, _, _, _, _, _, _, _, _, _, _, _, _, _, _, _, _, _, _, _, ⟨j + 1, A9, c9, by omega, by simp, rfl, HO9, HB9⟩, rfl⟩, by show 5 - ((j : Int) + 1).toNat < 5 - ((j : Int)).toNat; omega⟩
            · have hj' : j = 5 := by omega
              subst hj'
              have HOw9 : Hid (Bs wr (fun q => w.heap.size ≤ q) A' (28 + 2 * 5) ((leB 33639248 4 ++ catK 2 vs ++ catK 4 us) ++ catK 2 ns)) := Lib.hid (by
                have h := HOj.out
                rwa [List.take_of_length_le (by omega)] at h)
              have HBw9 := Lib.hid (HBw8.out.trans (HBj.out.mono HBw8.out.size))
              have HR := Lib.hid (HR.out.below' HBj.out)
              clear HOj HBj
              go_wp2_with fail
              refine (append_right A' 38 c' _ _ 4 2175008768 wr HOw9.out (by omega) (by omega) (by omega) (by omega)).mono ?_
              rintro e x1 ⟨A8, c8, rfl, ho, hb⟩
              have HO8 := Lib.hid ((Bs.of_own ho).mono fun b h => Nat.le_trans HBw9.out.size h)
              have HB8 := Lib.hid (HBw9.out.trans (hb.mono HBw9.out.size))
              have HR := Lib.hid (HR.out.below' hb)
              have HLT := Lib.hid HR.out.lt
              clear ho hb
              go_wp2_with fail
              refine (append_right A8 42 c8 _ _ 4 4294967295 x1 HO8.out (by omega) (by omega) (by omega) (by omega)).mono ?_
              rintro e x2 ⟨A9, c9, rfl, ho, hb⟩
              have HOW := Lib.hid ho
              have HB9 := Lib.hid (HB8.out.trans (hb.mono HB8.out.size))
              have HR := Lib.hid (HR.out.below' hb)
              have hx1 : x1.heap.size ≤ x2.heap.size := hb.size
              have hlt1 : w.heap.size < x1.heap.size := HLT.out
              clear ho hb
              have q0 := HR.out.cell 0
              simp at q0
              obtain ⟨i0, hi, hz0, hz1, hz2⟩ := info_parts info5
              go_wp2_with (at_builtin; refine wpList_append_str _ rfl (.tmp 109) (.tmp 112) 33 9 rfl x1.heap.size 5 i0 (.int .u8 0) Tryd.underlying33 Tryd.underlying9 hi hz0 hz1 hz2 rfl (.slice A9 46 c9) 46 _ rfl HOW.out s rfl (by unfold maxLen; omega) (by omega) hx1 ?_)
              intro A10 c10 x3 hown hgrow hat
              have hown' : x3.ownsRow x1.heap.size 5 1 (.slice A10 (46 + s.size) c10) (46 + s.size) ((leB 33639248 4 ++ catK 2 vs ++ catK 4 us ++ catK 2 ns ++ leB 2175008768 4 ++ leB 4294967295 4 ++ s.data.toList).map bv) := by
                simp only [List.map_append, List.append_assoc] at hown ⊢
                exact hown
              have HO10 := Lib.hid ((Bs.of_own hown').mono fun b h => Nat.le_trans HB8.out.size h)
              have HC10 := Lib.hid (own_cap hown)
              have HB10 := Lib.hid (HB9.out.grown hgrow HB9.out.size (fun g e => Nat.le_trans HB8.out.size (HOW.out.lt g e).1))
              have HR := Lib.hid (HR.out.grown hgrow (fun e => by have := (HOW.out.lt _ e.symm).1; omega))
              clear hown hown' hgrow hat hx1 hlt1 q0
              have q11 := HR.out.cell 11
              simp at q11
              obtain ⟨M, hM⟩ : ∃ M, 46 + s.size = M := ⟨_, rfl⟩
              obtain ⟨G, hG⟩ : ∃ G, leB 33639248 4 ++ catK 2 vs ++ catK 4 us ++ catK 2 ns ++ leB 2175008768 4 ++ leB 4294967295 4 ++ s.data.toList = G := ⟨_, rfl⟩
              rw [hM, hG] at HO10
              rw [hM]
              have HMM := Lib.hid hM
              have HG := Lib.hid hG
              have hMb : M ≤ 301 := by omega
              clear hM hG
              go_wp2_with fail
              refine (append_right A10 M c10 _ _ 2 1 x3 HO10.out (by omega) (by omega) (by omega) (by omega)).mono ?_
              rintro e x4 ⟨A11, c11, rfl, ho, hb⟩
              have HO11 := Lib.hid ((Bs.of_own ho).mono fun b h => Nat.le_trans HB10.out.size h)
              have HB11 := Lib.hid (HB10.out.trans (hb.mono HB10.out.size))
              have HR := Lib.hid (HR.out.below' hb)
              clear ho hb
              go_wp2_with fail
              refine (append_right A11 (M + 2) c11 _ _ 2 24 x4 HO11.out (by omega) (by omega) (by omega) (by omega)).mono ?_
              rintro e x5 ⟨A12, c12, rfl, ho, hb⟩
              have HO12 := Lib.hid ((Bs.of_own ho).mono fun b h => Nat.le_trans HB11.out.size h)
              have HB12 := Lib.hid (HB11.out.trans (hb.mono HB11.out.size))
              have HR := Lib.hid (HR.out.below' hb)
              clear ho hb
              clear q11
              have q9 := HR.out.cell 9
              have q10 := HR.out.cell 10
              have q13 := HR.out.cell 13
              simp at q9 q10 q13
              go_wp2_with fail
              obtain ⟨x6, hw6⟩ : ∃ x, x5.alloc (.cells #[.int .i64 (z : Nat), .int .i64 (p : Nat), .int .i64 (pl : Nat)] 3) = x := ⟨_, rfl⟩
              rw [hw6]
              have hb6 : Below x5.heap.size x5 x6 := hw6 ▸ (Below.refl _ _).alloc (Nat.le_refl _) _
              have HBx6 := Lib.hid (HB12.out.trans (hb6.mono HB12.out.size))
              have HOx6 := Lib.hid (HO12.out.below hb6)
              have HR := Lib.hid (HR.out.below' hb6)
              obtain ⟨T4, hT2⟩ : ∃ x, x5.heap.size = x := ⟨_, rfl⟩
              obtain ⟨ls, hus⟩ : ∃ us : List Nat, [z, p, pl] = us := ⟨_, rfl⟩
              have hulls : ls.length = 3 := by rw [← hus]; rfl
              have HSx6 : Hid (Whole x6 T4 3 (ls.map fun x => Value.int .i64 (x : Nat)).toArray) := Lib.hid (by rw [← hus, ← hw6]; exact Whole.new x5 3 _ hT2.symm)
              have HVls : Hid (∀ x ∈ ls, x < 9223372036854775808) := Lib.hid (by rw [← hus]; simp <;> omega)
              have HEls := Lib.hid hus
              rw [hT2]
              clear hus hw6 hb6 hT2
              clear q9 q10 q13
              obtain ⟨M4, hM4⟩ : ∃ M4, M + 2 + 2 = M4 := ⟨_, rfl⟩
              rw [hM4] at HOx6
              rw [hM4]
              have HM4 := Lib.hid hM4
              have hM4b : M4 ≤ 305 := by omega
              clear hM4
              go_loopw [12, 131] (fun b i wr => ∃ (j : Nat) (A' : Option Addr) (c' : Nat), j ≤ 3 ∧ i = .int .i64 (j : Nat) ∧ b = .slice A' (M4 + 8 * j) c' ∧ Hid (Bs wr (fun q => w.heap.size ≤ q) A' (M4 + 8 * j) ((G ++ leB 1 2 ++ leB 24 2) ++ catK 8 (ls.take j))) ∧ Hid (Below x6.heap.size x6 wr)) (fun _ i _ => 3 - (intOf i).toNat)
              case atStart => exact ⟨0, A12, c12, Nat.zero_le _, rfl, rfl, Lib.hid (by simpa [catK] using HOx6.out), Lib.hid (Below.refl _ _)⟩
              case round =>
                obtain ⟨j, A', c', hj, rfl, rfl, HOj, HBj⟩ := hrel
                by_cases hlt : j < 3
                · have h1 : (0 : Int) ≤ (j : Int) := by omega
                  have h2 : (j : Int) < 3 := by omega
                  have h3 : ((j : Int)).toNat = j := by omega
                  obtain ⟨x, hx⟩ : ∃ x, ls.getD j 0 = x := ⟨_, rfl⟩
                  have hc := (HSx6.out.below' HBj.out).cell j
                  have hxl : x < 9223372036854775808 := by rw [← hx]; exact getD_lt (by omega) HVls.out j
                  have hc' : wr.cell? ⟨T4, j, none⟩ = some (.int .i64 (x : Nat)) := by rw [hc, ← hx]; exact vals_at ls j (by omega)
                  clear hc
                  have kx : IntKind.u64.wrap (x : Int) = (x : Int) := IntWalk.u64_in _ (by omega)
                  have HX := Lib.hid hx
                  clear hx
                  go_wp2_with fail
                  refine (append_right A' (M4 + 8 * j) c' _ _ 8 x wr HOj.out (by omega) (by omega) (by omega) (by omega)).mono ?_
                  rintro e wy ⟨A9, c9, rfl, ho, hb⟩
                  have hsz : w.heap.size ≤ wr.heap.size := Nat.le_trans HBx6.out.size HBj.out.size
                  have HO9 : Hid (Bs wy (fun q => w.heap.size ≤ q) A9 (M4 + 8 * (j + 1)) ((G ++ leB 1 2 ++ leB 24 2) ++ catK 8 (ls.take (j + 1)))) := Lib.hid (by
                    have h := (Bs.of_own ho).mono fun b h => Nat.le_trans hsz h
                    rw [catK_take 8 ls j (by omega), HX.out, ← List.append_assoc]
                    exact h)
                  have HB9 := Lib.hid (HBj.out.trans (hb.mono HBj.out.size))
                  have en : M4 + 8 * j + 8 = M4 + 8 * (j + 1) := by omega
                  rw [en]
                  clear ho hb en
                  go_wp2
                  first
                    | exact ⟨⟨j + 1, A9, c9, by omega, by simp, rfl, HO9, HB9⟩, by simp only [intOf]; omega⟩
                    | exact ⟨⟨_, ⟨j + 1, A9, c9, by omega, by simp, rfl, HO9, HB9⟩, rfl⟩, by show 3 - ((j : Int) + 1).toNat < 3 - ((j : Int)).toNat; omega⟩
                    | exact ⟨⟨_, _, ⟨j + 1, A9, c9, by omega, by simp, rfl, HO9, HB9⟩, rfl⟩, by show 3 - ((j : Int) + 1).toNat < 3 - ((j : Int)).toNat; omega⟩
                    | exact ⟨⟨_, _, _, ⟨j + 1, A9, c9, by omega, by simp, rfl, HO9, HB9⟩, rfl⟩, by show 3 - ((j : Int) + 1).toNat < 3 - ((j : Int)).toNat; omega⟩
                    | exact ⟨⟨_, _, _, _, ⟨j + 1, A9, c9, by omega, by simp, rfl, HO9, HB9⟩, rfl⟩, by show 3 - ((j : Int) + 1).toNat < 3 - ((j : Int)).toNat; omega⟩
                    | exact ⟨⟨_, _, _, _, _, ⟨j + 1, A9, c9, by omega, by simp, rfl, HO9, HB9⟩, rfl⟩, by show 3 - ((j : Int) + 1).toNat < 3 - ((j : Int)).toNat; omega⟩
                    | exact ⟨⟨_, _, _, _, _, _, ⟨j + 1, A9, c9, by omega, by simp, rfl, HO9, HB9⟩, rfl⟩, by show 3 - ((j : Int) + 1).toNat < 3 - ((j : Int)).toNat; omega⟩
                    | exact ⟨⟨_, _, _, _, _, _, _, ⟨j + 1, A9, c9, by omega, by simp, rfl, HO9, HB9⟩, rfl⟩, by show 3 - ((j : Int) + 1).toNat < 3 - ((j : Int)).toNat; omega⟩
                    | exact ⟨⟨_, _, _, _, _, _, _, _, ⟨j + 1, A9, c9, by omega, by simp, rfl, HO9, HB9⟩, rfl⟩, by show 3 - ((j : Int) + 1).toNat < 3 - ((j : Int)).toNat; omega⟩
                    | exact ⟨⟨_, _, _, _, _, _, _, _, _, ⟨j + 1, A9, c9, by omega, by simp, rfl, HO9, HB9⟩, rfl⟩, by show 3 - ((j : Int) + 1).toNat < 3 - ((j : Int)).toNat; omega⟩
                    | exact ⟨⟨_, _, _, _, _, _, _, _, _, _, ⟨j + 1, A9, c9, by omega, by simp, rfl, HO9, HB9⟩, rfl⟩, by show 3 - ((j : Int) + 1).toNat < 3 - ((j : Int)).toNat; omega⟩
                    | exact ⟨⟨_, _, _, _, _, _, _, _, _, _, _, ⟨j + 1, A9, c9, by omega, by simp, rfl, HO9, HB9⟩, rfl⟩, by show 3 - ((j : Int) + 1).toNat < 3 - ((j : Int)).toNat; omega⟩
                    | exact ⟨⟨_, _, _, _, _, _, _, _, _, _, _, _, ⟨j + 1, A9, c9, by omega, by simp, rfl, HO9, HB9⟩, rfl⟩, by show 3 - ((j : Int) + 1).toNat < 3 - ((j : Int)).toNat; omega⟩
                    | exact ⟨⟨_, _, _, _, _, _, _, _, _, _, _, _, _, ⟨j + 1, A9, c9, by omega, by simp, rfl, HO9, HB9⟩, rfl⟩, by show 3 - ((j : Int) + 1).toNat < 3 - ((j : Int)).toNat; omega⟩
                    | exact ⟨⟨_, _, _, _, _, _, _, _, _, _, _, _, _, _, ⟨j + 1, A9, c9, by omega, by simp, rfl, HO9, HB9⟩, rfl⟩, by show 3 - ((j : Int) + 1).toNat < 3 - ((j : Int)).toNat; omega⟩
                    | exact ⟨⟨_, _, _, _, _, _, _, _, _, _, _, _, _, _, _, ⟨j + 1, A9, c9, by omega, by simp, rfl, HO9, HB9⟩, rfl⟩, by show 3 - ((j : Int) + 1).toNat < 3 - ((j : Int)).toNat; omega⟩
                    | exact ⟨⟨_, _, _, _, _, _, _, _, _, _, _, _, _, _, _, _, ⟨j + 1, A9, c9, by omega, by simp, rfl, HO9, HB9⟩, rfl⟩, by show 3 - ((j : Int) + 1).toNat < 3 - ((j : Int)).toNat; omega⟩
                    | exact ⟨⟨_, _, _, _, _, _, _, _, _, _, _, _, _, _, _, _, _, ⟨j + 1, A9, c9, by omega, by simp, rfl, HO9, HB9⟩, rfl⟩, by show 3 - ((j : Int) + 1).toNat < 3 - ((j : Int)).toNat; omega⟩
                    | exact ⟨⟨_, _, _, _, _, _, _, _, _, _, _, _, _, _, _, _, _, _, ⟨j + 1, A9, c9, by omega, by simp, rfl, HO9, HB9⟩, rfl⟩, by show 3 - ((j : Int) + 1).toNat < 3 - ((j : Int)).toNat; omega⟩
                    | exact ⟨⟨_, _, _, _, _, _, _, _, _, _, _, _, _, _, _, _, _, _, _, ⟨j + 1, A9, c9, by omega, by simp, rfl, HO9, HB9⟩, rfl⟩, by show 3 - ((j : Int) + 1).toNat < 3 - ((j : Int)).toNat; omega⟩
                    | exact ⟨⟨_, _, _, _, _, _, _, _, _, _, _, _, _, _, _, _, _, _, _, _, ⟨j + 1, A9, c9, by omega, by simp, rfl, HO9, HB9⟩, rfl⟩, by show 3 - ((j : Int) + 1).toNat < 3 - ((j : Int)).toNat; omega⟩
                    | exact ⟨⟨_, _, _, _, _, _, _, _, _, _, _, _, _, _, _, _, _, _, _, _, _, ⟨j + 1, A9, c9, by omega, by simp, rfl, HO9, HB9⟩, rfl⟩, by show 3 - ((j : Int) + 1).toNat < 3 - ((j : Int)).toNat; omega⟩
                    | exact ⟨⟨_, _, _, _, _, _, _, _, _, _, _, _, _, _, _, _, _, _, _, _, _, _, ⟨j + 1, A9, c9, by omega, by simp, rfl, HO9, HB9⟩, rfl⟩, by show 3 - ((j : Int) + 1).toNat < 3 - ((j : Int)).toNat; omega⟩
                    | exact ⟨⟨_, _, _, _, _, _, _, _, _, _, _, _, _, _, _, _, _, _, _, _, _, _, _, ⟨j + 1, A9, c9, by omega, by simp, rfl, HO9, HB9⟩, rfl⟩, by show 3 - ((j : Int) + 1).toNat < 3 - ((j : Int)).toNat; omega⟩
                    | exact ⟨⟨_, _, _, _, _, _, _, _, _, _, _, _, _, _, _, _, _, _, _, _, _, _, _, _, ⟨j + 1, A9, c9, by omega, by simp, rfl, HO9, HB9⟩, rfl⟩, by show 3 - ((j : Int) + 1).toNat < 3 - ((j : Int)).toNat; omega⟩
                    | exact ⟨⟨_, _, _, _, _, _, _, _, _, _, _, _, _, _, _, _, _, _, _, _, _, _, _, _, _, ⟨j + 1, A9, c9, by omega, by simp, rfl, HO9, HB9⟩, rfl⟩, by show 3 - ((j : Int) + 1).toNat < 3 - ((j : Int)).toNat; omega⟩
                    | exact ⟨⟨_, _, _, _, _, _, _, _, _, _, _, _, _, _, _, _, _, _, _, _, _, _, _, _, _, _, ⟨j + 1, A9, c9, by omega, by simp, rfl, HO9, HB9⟩, rfl⟩, by show 3 - ((j : Int) + 1).toNat < 3 - ((j : Int)).toNat; omega⟩
                    | exact ⟨⟨_, _, _, _, _, _, _, _, _, _, _, _, _, _, _, _, _, _, _, _, _, _, _, _, _, _, _, ⟨j + 1, A9, c9, by omega, by simp, rfl, HO9, HB9⟩, rfl⟩, by show 3 - ((j : Int) + 1).toNat < 3 - ((j : Int)).toNat; omega⟩
                    | exact ⟨⟨_, _, _, _, _, _, _, _, _, _, _, _, _, _, _, _, _, _, _, _, _, _, _, _, _, _, _, _, ⟨j + 1, A9, c9, by omega, by simp, rfl, HO9, HB9⟩, rfl⟩, by show 3 - ((j : Int) + 1).toNat < 3 - ((j : Int)).toNat; omega⟩
                    | exact ⟨⟨_, _, _, _, _, _, _, _, _, _, _, _, _, _, _, _, _, _, _, _, _, _, _, _, _, _, _, _, _, ⟨j + 1, A9, c9, by omega, by simp, rfl, HO9, HB9⟩, rfl⟩, by show 3 - ((j : Int) + 1).toNat < 3 - ((j : Int)).toNat; omega⟩
                    | exact ⟨⟨_, _, _, _, _, _, _, _, _, _, _, _, _, _, _, _, _, _, _, _, _, _, _, _, _, _, _, _, _, _, ⟨j + 1, A9, c9, by omega, by simp, rfl, HO9, HB9⟩, rfl⟩, by show 3 - ((j : Int) + 1).toNat < 3 - ((j : Int)).toNat; omega⟩
                · have hj' : j = 3 := by omega
                  subst hj'
                  have HOx7 : Hid (Bs wr (fun q => w.heap.size ≤ q) A' (M4 + 8 * 3) ((G ++ leB 1 2 ++ leB 24 2) ++ catK 8 ls)) := Lib.hid (by
                    have h := HOj.out
                    rwa [List.take_of_length_le (by omega)] at h)
                  have HBx7 := Lib.hid (HBx6.out.trans (HBj.out.mono HBx6.out.size))
                  have HR := Lib.hid (HR.out.below' HBj.out)
                  clear HOj HBj
                  go_wp2
                  simp [bodyPost, results, Tryd.results9, go_sem]
                  rw [HEvs.out, HEus.out, HEns.out, HEls.out]
                  refine ⟨A', c', ?_, ?_, HBx7.out⟩
                  · rw [show 74 + s.size = M4 + 8 * 3 by have := HMM.out; have := HM4.out; omega]
                  · have h := HOx7.out
                    rw [← HG.out] at h
                    rw [show 74 + s.size = M4 + 8 * 3 by have := HMM.out; have := HM4.out; omega]
                    simp only [List.append_assoc] at h ⊢
                    exact h
end Go.Proofs.YtdmglpnieiiigaaDoor
