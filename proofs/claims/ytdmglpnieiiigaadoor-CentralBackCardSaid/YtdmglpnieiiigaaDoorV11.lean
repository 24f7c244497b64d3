/- The law of writing and reading, of every entry. -/
import Derived.Test.YtdmglpnieiiigaaDoorV10
namespace Go.Proofs.YtdmglpnieiiigaaDoor
open Go.RowKit

set_option maxRecDepth 100000 in
set_option maxHeartbeats 4000000 in
theorem back_bad (s : ByteArray) (y mo d h mi se me : Int) (c : Nat) (p z : Int) (wd lt : Bool) (pl : Int) (Aa : Option Addr) (l ca : Nat) (k : Nat) (W : World) (hE : Env W) (hk : (codeC s (rightB y mo d h mi se) me p z pl == 0) = false) : Calls Tryd.prog 5 #[.agg #[.string s, .int .i64 y, .int .i64 mo, .int .i64 d, .int .i64 h, .int .i64 mi, .int .i64 se, .int .i64 me, .int .u32 (c : Nat), .int .i64 p, .int .i64 z, .bool wd, .bool lt, .int .i64 pl], .slice Aa l ca, .int .u8 (k : Nat)] W fun e w' => e = .returned (.bool true) ∧ Below W.heap.size W w' := by
  have XE := Lib.hid (fun w hE => cencode_bad s y mo d h mi se me c p z wd lt pl w hE hk)
  obtain ⟨K, hK⟩ : ∃ K, codeC s (rightB y mo d h mi se) me p z pl = K := ⟨_, rfl⟩
  rw [hK] at XE hk
  have hk2 : (K != 0) = true := by rw [bne, hk]; rfl
  have HE := Lib.hid hE
  clear hE hK
  go_enter Tryd.func5, Tryd.ntmps5
  go_wp2_with fail
  obtain ⟨w0, hw0⟩ : ∃ w0, W.alloc (.cells #[.string s, .int .i64 y, .int .i64 mo, .int .i64 d, .int .i64 h, .int .i64 mi, .int .i64 se, .int .i64 me, .int .u32 (c : Nat), .int .i64 p, .int .i64 z, .bool wd, .bool lt, .int .i64 pl] 28) = w0 := ⟨_, rfl⟩
  rw [hw0]
  have HW0 : Hid (Below W.heap.size W w0) := Lib.hid (hw0 ▸ (Below.refl _ _).alloc (Nat.le_refl _) _)
  have HR : Hid (Whole w0 W.heap.size 28 #[.string s, .int .i64 y, .int .i64 mo, .int .i64 d, .int .i64 h, .int .i64 mi, .int .i64 se, .int .i64 me, .int .u32 (c : Nat), .int .i64 p, .int .i64 z, .bool wd, .bool lt, .int .i64 pl]) := Lib.hid (hw0 ▸ Whole.new W 28 _ rfl)
  clear hw0
  refine (cawake_any w0 (HE.out.below HW0.out)).mono ?_
  rintro e w1 ⟨rfl, hb1⟩
  have HB1 : Hid (Below W.heap.size W w1) := Lib.hid (HW0.out.trans (hb1.mono HW0.out.size))
  have HR := Lib.hid (HR.out.below' hb1)
  have r0 := HR.out.cell 0
  have r1 := HR.out.cell 1
  have r2 := HR.out.cell 2
  have r3 := HR.out.cell 3
  have r4 := HR.out.cell 4
  have r5 := HR.out.cell 5
  have r6 := HR.out.cell 6
  have r7 := HR.out.cell 7
  have r8 := HR.out.cell 8
  have r9 := HR.out.cell 9
  have r10 := HR.out.cell 10
  have r11 := HR.out.cell 11
  have r12 := HR.out.cell 12
  have r13 := HR.out.cell 13
  simp at r0 r1 r2 r3 r4 r5 r6 r7 r8 r9 r10 r11 r12 r13
  clear hb1
  go_wp2_with fail
  refine (XE.out w1 (HE.out.below HB1.out)).mono ?_
  rintro e w2 ⟨rfl, hb2⟩
  have HB2 := Lib.hid (HB1.out.trans (hb2.mono HB1.out.size))
  clear hb2 HR r0 r1 r2 r3 r4 r5 r6 r7 r8 r9 r10 r11 r12 r13
  go_wp2
  go_ret
  exact ⟨rfl, HB2.out⟩
theorem back_any (s : ByteArray) (y mo d h mi se me : Int) (c : Nat) (p z : Int) (wd lt : Bool) (pl : Int) (Aa : Option Addr) (l ca : Nat) (ah : List UInt8) (k : Nat) (W : World) (hE : Env W) (hc : c < 4294967296) (hA : Bs W (fun b => b < W.heap.size) Aa l ah) (hk8 : k < 256) : Calls Tryd.prog 5 #[.agg #[.string s, .int .i64 y, .int .i64 mo, .int .i64 d, .int .i64 h, .int .i64 mi, .int .i64 se, .int .i64 me, .int .u32 (c : Nat), .int .i64 p, .int .i64 z, .bool wd, .bool lt, .int .i64 pl], .slice Aa l ca, .int .u8 (k : Nat)] W fun e w' => e = .returned (.bool true) ∧ Below W.heap.size W w' := by
  by_cases hk : codeC s (rightB y mo d h mi se) me p z pl = 0
  · obtain ⟨hk0, hl0, hl1⟩ := codeC_zero hk
    obtain ⟨_, _, h3, h4, _, h6, _⟩ := codeH_zero hk0
    obtain ⟨me, rfl⟩ : ∃ m : Nat, me = m := ⟨me.toNat, by omega⟩
    obtain ⟨p, rfl⟩ : ∃ q : Nat, p = q := ⟨p.toNat, by omega⟩
    obtain ⟨z, rfl⟩ : ∃ x : Nat, z = x := ⟨z.toNat, by omega⟩
    obtain ⟨pl, rfl⟩ : ∃ x : Nat, pl = x := ⟨pl.toNat, by omega⟩
    obtain ⟨E, LE, hT, hG⟩ := turn_any s y mo d h mi se me c p z pl wd lt hc hk
    exact back_good s y mo d h mi se me c p z pl wd lt Aa l ca ah k E LE W hE hk8 hA hT hG
  · exact back_bad s y mo d h mi se me c p z wd lt pl Aa l ca k W hE (by simpa using hk)
end Go.Proofs.YtdmglpnieiiigaaDoor
