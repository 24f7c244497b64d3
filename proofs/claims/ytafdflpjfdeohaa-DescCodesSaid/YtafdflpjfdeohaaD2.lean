/- The record. -/
import Derived.Test.YtafdflpjfdeohaaD1
namespace Go.Proofs.Ytafdflpjfdeohaa
open Go.RowKit

def cat (l : List (Nat × Nat)) : List UInt8 := l.flatMap fun q => leB q.1 q.2
def csz (l : List (Nat × Nat)) : Nat := (l.map (·.2)).sum
theorem cat_len (l : List (Nat × Nat)) : (cat l).length = csz l := by
  induction l with
  | nil => rfl
  | cons q l ih => show (leB q.1 q.2 ++ cat l).length = _; rw [List.length_append, leB_len, ih]; rfl
theorem num_cat (l1 l2 : List (Nat × Nat)) (v k : Nat) (h : v < 256 ^ k) : num (((cat (l1 ++ (v, k) :: l2)).drop (csz l1)).take k) = v := by
  have e : cat (l1 ++ (v, k) :: l2) = cat l1 ++ (leB v k ++ cat l2) := by unfold cat; simp
  rw [e, ← cat_len l1, List.drop_left, List.take_left' (leB_len v k), num_leB]
  exact Nat.mod_eq_of_lt h
def encD (c p s : Nat) (wd : Bool) : List UInt8 := ((([] ++ leB 134695760 4) ++ leB c 4) ++ leB p (wid wd)) ++ leB s (wid wd)
theorem encD_cat (c p s : Nat) (wd : Bool) : encD c p s wd = cat [(134695760, 4), (c, 4), (p, wid wd), (s, wid wd)] := by
  unfold encD cat
  simp
def RetE (w : World) (k : Nat) (bs : List UInt8) (e : Ending) (w' : World) : Prop := ∃ A c, e = .returned (.tuple #[.slice A k c, .int .i64 0]) ∧ Bs w' (fun b => w.heap.size ≤ b) A k bs ∧ (k ≤ c ∧ c ≤ 9223372036854775807) ∧ Below w.heap.size w w'
set_option maxHeartbeats 4000000 in
set_option maxRecDepth 100000 in
theorem encode_slim (c p s : Nat) (w : World) (hc : c < 4294967296) (hp : p ≤ 33554432) (hs : s ≤ 16777216) : Calls Try.prog 7 #[.agg #[.int .u32 (c : Nat), .int .i64 (p : Nat), .int .i64 (s : Nat), .bool false]] w (RetE w 16 (encD c p s false)) := by
  have HC : Hid (∀ w, Calls Try.prog 8 #[.agg #[.int .u32 (c : Nat), .int .i64 (p : Nat), .int .i64 (s : Nat), .bool false]] w fun e w' => e = .returned (.int .i64 0) ∧ Below w.heap.size w w') := Lib.hid (fun w => by
    have := check_any c p s false w
    rwa [show okD p s = true from by unfold okD; simp; omega, if_pos rfl] at this)
  have WA : Hid (∀ w, Calls Try.prog 18 #[.bool false] w fun e w' => e = .returned (.int .i64 4) ∧ w = w') := Lib.hid (fun w => width_any false w)
  have kc : IntKind.u64.wrap (c : Int) = (c : Int) := IntWalk.u64_in _ (by omega)
  have kp : IntKind.u64.wrap (p : Int) = (p : Int) := IntWalk.u64_in _ (by omega)
  have ks : IntKind.u64.wrap (s : Int) = (s : Int) := IntWalk.u64_in _ (by omega)
  go_enter Try.func7, Try.ntmps7
  go_wp2_with fail
  obtain ⟨w0, hw0⟩ : ∃ w0, w.alloc (.cells #[.int .u32 (c : Nat), .int .i64 (p : Nat), .int .i64 (s : Nat), .bool false] 24) = w0 := ⟨_, rfl⟩
  rw [hw0]
  have HW0 : Hid (Below w.heap.size w w0) := Lib.hid (hw0 ▸ (Below.refl _ _).alloc (Nat.le_refl _) _)
  have HR : Hid (Whole w0 w.heap.size 24 #[.int .u32 (c : Nat), .int .i64 (p : Nat), .int .i64 (s : Nat), .bool false]) := Lib.hid (hw0 ▸ Whole.new w 24 _ rfl)
  clear hw0
  refine (HC.out w0).mono ?_
  rintro e w1 ⟨rfl, hb1⟩
  have HWw1 : Hid (Below w.heap.size w w1) := Lib.hid (HW0.out.trans (hb1.mono HW0.out.size))
  have HRw1 := Lib.hid (HR.out.below' hb1)
  clear hb1 HC
  go_wp2_with fail
  refine (append_right none 0 0 [] (fun _ => True) 4 134695760 w1 (Bs.empty _ _ _) (by omega) (by omega) (by omega) (by omega)).mono ?_
  rintro e w2 ⟨Aw2, cw2, rfl, ho, hb⟩
  have HBw2 := Lib.hid ((Bs.of_own ho).mono fun b h => Nat.le_trans HWw1.out.size h)
  have HWw2 : Hid (Below w.heap.size w w2) := Lib.hid (HWw1.out.trans (hb.mono HWw1.out.size))
  have HRw2 := Lib.hid (HRw1.out.below' hb)
  have r0 := HRw2.out.cell 0
  simp at r0
  clear ho hb
  go_wp2_with fail
  refine (append_right Aw2 4 cw2 _ _ 4 c w2 HBw2.out (by omega) (by omega) (by omega) (by omega)).mono ?_
  rintro e w3 ⟨Aw3, cw3, rfl, ho, hb⟩
  have HBw3 := Lib.hid ((Bs.of_own ho).mono fun b h => Nat.le_trans HWw2.out.size h)
  have HWw3 : Hid (Below w.heap.size w w3) := Lib.hid (HWw2.out.trans (hb.mono HWw2.out.size))
  have HRw3 := Lib.hid (HRw2.out.below' hb)
  clear ho hb r0
  have r0 := HRw3.out.cell 0
  have r1 := HRw3.out.cell 1
  have r2 := HRw3.out.cell 2
  have r3 := HRw3.out.cell 3
  simp at r0 r1 r2 r3
  go_wp2
  go_region_law (first
    | (go_simp
       go_at_call 18
       refine (WA.out _).mono ?_
       rintro e wy ⟨rfl, rfl⟩)
    | (go_simp
       go_at_call 17
       refine (append_right Aw3 8 cw3 (_) _ 4 p w3.drew HBw3.out (by omega) (by omega) (by omega) (by omega)).mono ?_
       rintro e w4 ⟨Aw4, cw4, rfl, ho, hb⟩
       have HBw4 := Lib.hid ((Bs.of_own ho).mono fun b h => Nat.le_trans HWw3.out.size h)
       have HCw4 := Lib.hid (own_cap ho)
       have HWw4 : Hid (Below w.heap.size w w4) := Lib.hid (HWw3.out.drew.trans (hb.mono HWw3.out.size))
       have HRw4 := Lib.hid (HRw3.out.below' (show Below w3.heap.size w3 w4 from ((Below.refl _ w3).drew).trans hb))
       have r0 := HRw4.out.cell 0
       have r1 := HRw4.out.cell 1
       have r2 := HRw4.out.cell 2
       have r3 := HRw4.out.cell 3
       simp at r0 r1 r2 r3
       clear ho hb))
  all_goals
    go_wp2
    go_region_law (first
      | (go_simp
         go_at_call 18
         refine (WA.out _).mono ?_
         rintro e wy ⟨rfl, rfl⟩)
      | (go_simp
         go_at_call 17
         refine (append_right Aw4 12 cw4 (_) _ 4 s w4.drew HBw4.out (by omega) (by omega) (by omega) (by omega)).mono ?_
         rintro e w5 ⟨Aw5, cw5, rfl, ho, hb⟩
         have HBw5 := Lib.hid ((Bs.of_own ho).mono fun b h => Nat.le_trans HWw4.out.size h)
         have HCw5 := Lib.hid (own_cap ho)
         have HWw5 : Hid (Below w.heap.size w w5) := Lib.hid (HWw4.out.drew.trans (hb.mono HWw4.out.size))
         have HRw5 := Lib.hid (HRw4.out.below' (show Below w4.heap.size w4 w5 from ((Below.refl _ w4).drew).trans hb))
         have r0 := HRw5.out.cell 0
         have r1 := HRw5.out.cell 1
         have r2 := HRw5.out.cell 2
         have r3 := HRw5.out.cell 3
         simp at r0 r1 r2 r3
         clear ho hb))
    all_goals
      go_wp2
      go_ret2
      exact ⟨Aw5, cw5, rfl, HBw5.out, HCw5.out, HWw5.out⟩
set_option maxHeartbeats 4000000 in
set_option maxRecDepth 100000 in
theorem encode_wide (c p s : Nat) (w : World) (hc : c < 4294967296) (hp : p ≤ 33554432) (hs : s ≤ 16777216) : Calls Try.prog 7 #[.agg #[.int .u32 (c : Nat), .int .i64 (p : Nat), .int .i64 (s : Nat), .bool true]] w (RetE w 24 (encD c p s true)) := by
  have HC : Hid (∀ w, Calls Try.prog 8 #[.agg #[.int .u32 (c : Nat), .int .i64 (p : Nat), .int .i64 (s : Nat), .bool true]] w fun e w' => e = .returned (.int .i64 0) ∧ Below w.heap.size w w') := Lib.hid (fun w => by
    have := check_any c p s true w
    rwa [show okD p s = true from by unfold okD; simp; omega, if_pos rfl] at this)
  have WA : Hid (∀ w, Calls Try.prog 18 #[.bool true] w fun e w' => e = .returned (.int .i64 8) ∧ w = w') := Lib.hid (fun w => width_any true w)
  have kc : IntKind.u64.wrap (c : Int) = (c : Int) := IntWalk.u64_in _ (by omega)
  have kp : IntKind.u64.wrap (p : Int) = (p : Int) := IntWalk.u64_in _ (by omega)
  have ks : IntKind.u64.wrap (s : Int) = (s : Int) := IntWalk.u64_in _ (by omega)
  go_enter Try.func7, Try.ntmps7
  go_wp2_with fail
  obtain ⟨w0, hw0⟩ : ∃ w0, w.alloc (.cells #[.int .u32 (c : Nat), .int .i64 (p : Nat), .int .i64 (s : Nat), .bool true] 24) = w0 := ⟨_, rfl⟩
  rw [hw0]
  have HW0 : Hid (Below w.heap.size w w0) := Lib.hid (hw0 ▸ (Below.refl _ _).alloc (Nat.le_refl _) _)
  have HR : Hid (Whole w0 w.heap.size 24 #[.int .u32 (c : Nat), .int .i64 (p : Nat), .int .i64 (s : Nat), .bool true]) := Lib.hid (hw0 ▸ Whole.new w 24 _ rfl)
  clear hw0
  refine (HC.out w0).mono ?_
  rintro e w1 ⟨rfl, hb1⟩
  have HWw1 : Hid (Below w.heap.size w w1) := Lib.hid (HW0.out.trans (hb1.mono HW0.out.size))
  have HRw1 := Lib.hid (HR.out.below' hb1)
  clear hb1 HC
  go_wp2_with fail
  refine (append_right none 0 0 [] (fun _ => True) 4 134695760 w1 (Bs.empty _ _ _) (by omega) (by omega) (by omega) (by omega)).mono ?_
  rintro e w2 ⟨Aw2, cw2, rfl, ho, hb⟩
  have HBw2 := Lib.hid ((Bs.of_own ho).mono fun b h => Nat.le_trans HWw1.out.size h)
  have HWw2 : Hid (Below w.heap.size w w2) := Lib.hid (HWw1.out.trans (hb.mono HWw1.out.size))
  have HRw2 := Lib.hid (HRw1.out.below' hb)
  have r0 := HRw2.out.cell 0
  simp at r0
  clear ho hb
  go_wp2_with fail
  refine (append_right Aw2 4 cw2 _ _ 4 c w2 HBw2.out (by omega) (by omega) (by omega) (by omega)).mono ?_
  rintro e w3 ⟨Aw3, cw3, rfl, ho, hb⟩
  have HBw3 := Lib.hid ((Bs.of_own ho).mono fun b h => Nat.le_trans HWw2.out.size h)
  have HWw3 : Hid (Below w.heap.size w w3) := Lib.hid (HWw2.out.trans (hb.mono HWw2.out.size))
  have HRw3 := Lib.hid (HRw2.out.below' hb)
  clear ho hb r0
  have r0 := HRw3.out.cell 0
  have r1 := HRw3.out.cell 1
  have r2 := HRw3.out.cell 2
  have r3 := HRw3.out.cell 3
  simp at r0 r1 r2 r3
  go_wp2
  go_region_law (first
    | (go_simp
       go_at_call 18
       refine (WA.out _).mono ?_
       rintro e wy ⟨rfl, rfl⟩)
    | (go_simp
       go_at_call 17
       refine (append_right Aw3 8 cw3 (_) _ 8 p w3.drew HBw3.out (by omega) (by omega) (by omega) (by omega)).mono ?_
       rintro e w4 ⟨Aw4, cw4, rfl, ho, hb⟩
       have HBw4 := Lib.hid ((Bs.of_own ho).mono fun b h => Nat.le_trans HWw3.out.size h)
       have HCw4 := Lib.hid (own_cap ho)
       have HWw4 : Hid (Below w.heap.size w w4) := Lib.hid (HWw3.out.drew.trans (hb.mono HWw3.out.size))
       have HRw4 := Lib.hid (HRw3.out.below' (show Below w3.heap.size w3 w4 from ((Below.refl _ w3).drew).trans hb))
       have r0 := HRw4.out.cell 0
       have r1 := HRw4.out.cell 1
       have r2 := HRw4.out.cell 2
       have r3 := HRw4.out.cell 3
       simp at r0 r1 r2 r3
       clear ho hb))
  all_goals
    go_wp2
    go_region_law (first
      | (go_simp
         go_at_call 18
         refine (WA.out _).mono ?_
         rintro e wy ⟨rfl, rfl⟩)
      | (go_simp
         go_at_call 17
         refine (append_right Aw4 16 cw4 (_) _ 8 s w4.drew HBw4.out (by omega) (by omega) (by omega) (by omega)).mono ?_
         rintro e w5 ⟨Aw5, cw5, rfl, ho, hb⟩
         have HBw5 := Lib.hid ((Bs.of_own ho).mono fun b h => Nat.le_trans HWw4.out.size h)
         have HCw5 := Lib.hid (own_cap ho)
         have HWw5 : Hid (Below w.heap.size w w5) := Lib.hid (HWw4.out.drew.trans (hb.mono HWw4.out.size))
         have HRw5 := Lib.hid (HRw4.out.below' (show Below w4.heap.size w4 w5 from ((Below.refl _ w4).drew).trans hb))
         have r0 := HRw5.out.cell 0
         have r1 := HRw5.out.cell 1
         have r2 := HRw5.out.cell 2
         have r3 := HRw5.out.cell 3
         simp at r0 r1 r2 r3
         clear ho hb))
    all_goals
      go_wp2
      go_ret2
      exact ⟨Aw5, cw5, rfl, HBw5.out, HCw5.out, HWw5.out⟩
end Go.Proofs.Ytafdflpjfdeohaa
