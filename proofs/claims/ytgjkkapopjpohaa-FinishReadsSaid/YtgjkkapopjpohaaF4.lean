/- Encode. -/
import Derived.Test.YtgjkkapopjpohaaF3
namespace Go.Proofs.Ytgjkkapopjpohaa
open Go.RowKit

def RetE (w : World) (k : Nat) (bs : List UInt8) (e : Ending) (w' : World) : Prop := ∃ A c, e = .returned (.tuple #[.slice A k c, .int .i64 0]) ∧ Bs w' (fun b => w.heap.size ≤ b) A k bs ∧ Below w.heap.size w w'
set_option maxRecDepth 100000 in
set_option maxHeartbeats 4000000 in
theorem encode_slim (n s a : Nat) (w : World) (hn : n ≤ 1000) (hs : s < 4294967295) (ha : a < 4294967295) : Calls Try.prog 7 #[.agg #[.int .i64 (n : Nat), .int .i64 (s : Nat), .int .i64 (a : Nat), .bool false]] w (RetE w 22 (enc n s a false)) := by
  have hok : okT (n : Nat) (s : Nat) (a : Nat) = true := by unfold okT; simp; omega
  have HC : Hid (∀ w, Calls Try.prog 10 #[.agg #[.int .i64 (n : Nat), .int .i64 (s : Nat), .int .i64 (a : Nat), .bool false]] w fun e w' => e = .returned (.int .i64 0) ∧ Below w.heap.size w w') := Lib.hid (fun w => by
    have := check_any n s a false w
    rwa [hok, if_pos rfl] at this)
  clear hok
  go_enter Try.func7, Try.ntmps7
  go_wp2_with fail
  obtain ⟨w0, hw0⟩ : ∃ w0, w.alloc (.cells #[.int .i64 (n : Nat), .int .i64 (s : Nat), .int .i64 (a : Nat), .bool false] 23) = w0 := ⟨_, rfl⟩
  rw [hw0]
  have HW0 : Hid (Below w.heap.size w w0) := Lib.hid (hw0 ▸ (Below.refl _ _).alloc (Nat.le_refl _) _)
  have HWw0 : Hid (Below w0.heap.size w0 w0) := Lib.hid (Below.refl _ _)
  have HR : Hid (Whole w0 w.heap.size 23 #[.int .i64 (n : Nat), .int .i64 (s : Nat), .int .i64 (a : Nat), .bool false]) := Lib.hid (hw0 ▸ Whole.new w 23 _ rfl)
  clear hw0
  refine (HC.out w0).mono ?_
  rintro e' w1 ⟨rfl, hb1⟩
  have HWw1 : Hid (Below w0.heap.size w0 w1) := Lib.hid hb1
  have hr := HR.out.below' hb1
  have r0 := hr.cell 0
  have r1 := hr.cell 1
  have r2 := hr.cell 2
  have r3 := hr.cell 3
  simp at r0 r1 r2 r3
  clear hb1 hr
  go_wp2
  go_quiet (fail)
  have HWw2 : Hid (Below w0.heap.size w0 (w1.drewN nq)) := Lib.hid (HWw1.out.drewN' nq)
  have q3 : (w1.drewN nq).cell? ⟨w.heap.size, 3, none⟩ = some (.bool false) := r3
  generalize w1.drewN nq = w2 at *
  have HBw2 : Hid (Bs w2 (fun b => w0.heap.size ≤ b) none 0 []) := Lib.hid (Bs.empty _ _ _)
  clear r0 r1 r2 r3
  go_wp2_with fail
  refine (append_right none 0 0 ([]) _ 4 101010256 w2 HBw2.out (by omega) (by omega) (by omega) (by omega)).mono ?_
  rintro e w3 ⟨Aw3, cw3, rfl, ho, hb⟩
  have HBw3 : Hid (Bs w3 (fun b => w0.heap.size ≤ b) Aw3 4 (leB 101010256 4)) := Lib.hid ((Bs.of_own ho).mono fun b h => Nat.le_trans HWw2.out.size h)
  have HWw3 : Hid (Below w0.heap.size w0 w3) := Lib.hid (HWw2.out.trans (hb.mono HWw2.out.size))
  clear ho hb
  obtain ⟨pre, hpre⟩ : ∃ p, leB 101010256 4 = p := ⟨_, rfl⟩
  rw [hpre] at HBw3
  have HPRE := Lib.hid hpre
  clear hpre
  go_wp2
  have HL5 := Lib.hid ((Lst.new (size := 1) w3 3 #[.int .i64 0, .int .i64 0, .int .i64 (n : Nat), .int .i64 (n : Nat)] 4 rfl (fr := (0, 0)) rfl).mono (fun b e => (e ▸ Nat.le_refl w3.heap.size : w3.heap.size ≤ b)))
  have HW5 : Hid (Below w0.heap.size w0 (w3.alloc (.cells #[.int .i64 0, .int .i64 0, .int .i64 (n : Nat), .int .i64 (n : Nat)] 3))) := Lib.hid (HWw3.out.alloc HWw3.out.size _)
  have HB5 := Lib.hid (HBw3.out.alloc (.cells #[.int .i64 0, .int .i64 0, .int .i64 (n : Nat), .int .i64 (n : Nat)] 3))
  obtain ⟨gq, hgq⟩ : ∃ g, w3.heap.size = g := ⟨_, rfl⟩
  rw [hgq] at HL5 ⊢
  generalize hw5 : w3.alloc (.cells #[.int .i64 0, .int .i64 0, .int .i64 (n : Nat), .int .i64 (n : Nat)] 3) = w5 at *
  clear hgq hw5
  have HNB : Hid (∀ x ∈ [0, 0, n, n], x < 4294967296) := Lib.hid (by intro x hx; simp at hx; omega)
  go_loopw [5, 32] (fun o i wr => ∃ (j : Nat) (A : Option Addr) (c : Nat), j ≤ 4 ∧ i = .int .i64 (j : Nat) ∧ o = .slice A (4 + 2 * j) c ∧ Hid (Bs wr (fun b => w0.heap.size ≤ b) A (4 + 2 * j) (pre ++ fl 2 ([0, 0, n, n].take j))) ∧ Hid (Below w5.heap.size w5 wr)) (fun _ i _ => 4 - (intOf i).toNat)
  case atStart => exact ⟨0, _, _, Nat.zero_le _, rfl, rfl, Lib.hid (by simpa [fl] using HB5.out), Lib.hid (Below.refl _ _)⟩
  case round =>
    obtain ⟨j, A, c, hj, rfl, rfl, HB, HB5'⟩ := hrel
    by_cases hlt : j < 4
    · obtain ⟨b, off, hA, _, _, hc⟩ := (HL5.out.below HB5'.out).int_at (ns := natI [0, 0, n, n]) hlt
      injection hA with hA
      injection hA with q1 q2 _
      subst q1 q2
      rw [show (natI [0, 0, n, n]).getD j 0 = (([0, 0, n, n].getD j 0 : Nat) : Int) from getD_mapI _ _, Nat.zero_add] at hc
      have HT := Lib.hid (fl_take 2 [0, 0, n, n] j hlt)
      have hvb : [0, 0, n, n].getD j 0 < 4294967296 := by
        rw [List.getD_eq_getElem?_getD, List.getElem?_eq_getElem (show j < [0, 0, n, n].length from hlt)]
        exact HNB.out _ (List.getElem_mem _)
      generalize [0, 0, n, n].getD j 0 = v at hc HT hvb
      obtain ⟨m, hm⟩ : ∃ m, 4 + 2 * j = m := ⟨_, rfl⟩
      rw [hm] at HB ⊢
      have hmb : m ≤ 1000 := by omega
      have HM := Lib.hid hm
      clear hm
      go_wp2_with fail
      refine (append_right A m c (pre ++ fl 2 ([0, 0, n, n].take j)) _ 2 v wr HB.out (by omega) (by omega) (by omega) (by omega)).mono ?_
      rintro e wq ⟨A', c', rfl, ho, hb⟩
      have HBq : Hid (Bs wq (fun b => w0.heap.size ≤ b) A' (4 + 2 * (j + 1)) (pre ++ fl 2 ([0, 0, n, n].take (j + 1)))) := Lib.hid (by
        rw [HT.out, ← List.append_assoc, show 4 + 2 * (j + 1) = m + 2 by have := HM.out; omega]
        exact (Bs.of_own ho).mono fun b h => Nat.le_trans (Nat.le_trans HW5.out.size HB5'.out.size) h)
      have HWq := Lib.hid (HB5'.out.trans (hb.mono HB5'.out.size))
      clear ho hb
      go_wp2
      go_round
      case rel => exact ⟨j + 1, A', c', by omega, by go_num, by rw [show 4 + 2 * (j + 1) = m + 2 by have := HM.out; omega], HBq, HWq⟩
      case measure => simp [intOf]; omega
    · obtain rfl : j = 4 := by omega
      rw [show [0, 0, n, n].take 4 = [0, 0, n, n] from rfl] at HB
      have HWwr := Lib.hid (HW5.out.trans (HB5'.out.mono HW5.out.size))
      clear HB5' hlt hj
      have HBwr : Hid (Bs wr (fun b => w0.heap.size ≤ b) A 12 (pre ++ fl 2 [0, 0, n, n])) := HB
      clear HB HNB
      obtain ⟨pre2, hpre2⟩ : ∃ p, pre ++ fl 2 [0, 0, n, n] = p := ⟨_, rfl⟩
      rw [hpre2] at HBwr
      have HPRE2 := Lib.hid hpre2
      clear hpre2
      go_wp2_with fail
      refine (append_right A 12 c (pre2) _ 4 s wr HBwr.out (by omega) (by omega) (by omega) (by omega)).mono ?_
      rintro e w6 ⟨Aw6, cw6, rfl, ho, hb⟩
      have HBw6 : Hid (Bs w6 (fun b => w0.heap.size ≤ b) Aw6 16 (pre2 ++ leB s 4)) := Lib.hid ((Bs.of_own ho).mono fun b h => Nat.le_trans HWwr.out.size h)
      have HWw6 : Hid (Below w0.heap.size w0 w6) := Lib.hid (HWwr.out.trans (hb.mono HWwr.out.size))
      clear ho hb
      go_wp2_with fail
      refine (append_right Aw6 16 cw6 (pre2 ++ leB s 4) _ 4 a w6 HBw6.out (by omega) (by omega) (by omega) (by omega)).mono ?_
      rintro e w7 ⟨Aw7, cw7, rfl, ho, hb⟩
      have HBw7 : Hid (Bs w7 (fun b => w0.heap.size ≤ b) Aw7 20 (pre2 ++ leB s 4 ++ leB a 4)) := Lib.hid ((Bs.of_own ho).mono fun b h => Nat.le_trans HWw6.out.size h)
      have HWw7 : Hid (Below w0.heap.size w0 w7) := Lib.hid (HWw6.out.trans (hb.mono HWw6.out.size))
      clear ho hb
      go_wp2_with fail
      refine (append_right Aw7 20 cw7 (pre2 ++ leB s 4 ++ leB a 4) _ 2 0 w7 HBw7.out (by omega) (by omega) (by omega) (by omega)).mono ?_
      rintro e w8 ⟨Aw8, cw8, rfl, ho, hb⟩
      have HBw8 : Hid (Bs w8 (fun b => w0.heap.size ≤ b) Aw8 22 (pre2 ++ leB s 4 ++ leB a 4 ++ leB 0 2)) := Lib.hid ((Bs.of_own ho).mono fun b h => Nat.le_trans HWw7.out.size h)
      have HWw8 : Hid (Below w0.heap.size w0 w8) := Lib.hid (HWw7.out.trans (hb.mono HWw7.out.size))
      clear ho hb
      go_wp2
      go_ret2
      refine ⟨Aw8, cw8, rfl, ?_, HW0.out.trans (HWw8.out.mono HW0.out.size)⟩
      have := HBw8.out.mono (T := fun b => w.heap.size ≤ b) (fun b hb => Nat.le_trans HW0.out.size hb)
      unfold enc
      rw [if_neg (by simp)]
      unfold encT
      rw [← HPRE2.out, ← HPRE.out] at this
      exact this
set_option maxRecDepth 100000 in
set_option maxHeartbeats 4000000 in
theorem encode_wide (n s a : Nat) (w : World) (hn : n ≤ 1000) (hs : s < 4294967295) (ha : a < 4294967295) : Calls Try.prog 7 #[.agg #[.int .i64 (n : Nat), .int .i64 (s : Nat), .int .i64 (a : Nat), .bool true]] w (RetE w 98 (enc n s a true)) := by
  have hok : okT (n : Nat) (s : Nat) (a : Nat) = true := by unfold okT; simp; omega
  have HC : Hid (∀ w, Calls Try.prog 10 #[.agg #[.int .i64 (n : Nat), .int .i64 (s : Nat), .int .i64 (a : Nat), .bool true]] w fun e w' => e = .returned (.int .i64 0) ∧ Below w.heap.size w w') := Lib.hid (fun w => by
    have := check_any n s a true w
    rwa [hok, if_pos rfl] at this)
  clear hok
  go_enter Try.func7, Try.ntmps7
  go_wp2_with fail
  obtain ⟨w0, hw0⟩ : ∃ w0, w.alloc (.cells #[.int .i64 (n : Nat), .int .i64 (s : Nat), .int .i64 (a : Nat), .bool true] 23) = w0 := ⟨_, rfl⟩
  rw [hw0]
  have HW0 : Hid (Below w.heap.size w w0) := Lib.hid (hw0 ▸ (Below.refl _ _).alloc (Nat.le_refl _) _)
  have HWw0 : Hid (Below w0.heap.size w0 w0) := Lib.hid (Below.refl _ _)
  have HR : Hid (Whole w0 w.heap.size 23 #[.int .i64 (n : Nat), .int .i64 (s : Nat), .int .i64 (a : Nat), .bool true]) := Lib.hid (hw0 ▸ Whole.new w 23 _ rfl)
  clear hw0
  refine (HC.out w0).mono ?_
  rintro e' w1 ⟨rfl, hb1⟩
  have HWw1 : Hid (Below w0.heap.size w0 w1) := Lib.hid hb1
  have hr := HR.out.below' hb1
  have r0 := hr.cell 0
  have r1 := hr.cell 1
  have r2 := hr.cell 2
  have r3 := hr.cell 3
  simp at r0 r1 r2 r3
  clear hb1 hr
  go_wp2
  go_quiet (fail)
  go_wp2_with fail
  refine (wide_any n s a true _ hn hs ha).mono ?_
  rintro e' w2 ⟨Aw2, cw2, rfl, ho, hb⟩
  have HWw2 : Hid (Below w0.heap.size w0 w2) := Lib.hid ((HWw1.out.drewN' nq).trans (hb.mono HWw1.out.size))
  have HBw2 : Hid (Bs w2 (fun b => w0.heap.size ≤ b) Aw2 76 (encW n s a)) := Lib.hid (ho.mono fun b h => Nat.le_trans HWw1.out.size h)
  clear ho hb r0 r1 r2 r3
  go_wp2_with fail
  refine (append_right Aw2 76 cw2 (encW n s a) _ 4 101010256 w2 HBw2.out (by omega) (by omega) (by omega) (by omega)).mono ?_
  rintro e w3 ⟨Aw3, cw3, rfl, ho, hb⟩
  have HBw3 : Hid (Bs w3 (fun b => w0.heap.size ≤ b) Aw3 80 (encW n s a ++ leB 101010256 4)) := Lib.hid ((Bs.of_own ho).mono fun b h => Nat.le_trans HWw2.out.size h)
  have HWw3 : Hid (Below w0.heap.size w0 w3) := Lib.hid (HWw2.out.trans (hb.mono HWw2.out.size))
  clear ho hb
  obtain ⟨pre, hpre⟩ : ∃ p, encW n s a ++ leB 101010256 4 = p := ⟨_, rfl⟩
  rw [hpre] at HBw3
  have HPRE := Lib.hid hpre
  clear hpre
  go_wp2
  have HL5 := Lib.hid ((Lst.new (size := 1) w3 3 #[.int .i64 0, .int .i64 0, .int .i64 65535, .int .i64 65535] 4 rfl (fr := (0, 0)) rfl).mono (fun b e => (e ▸ Nat.le_refl w3.heap.size : w3.heap.size ≤ b)))
  have HW5 : Hid (Below w0.heap.size w0 (w3.alloc (.cells #[.int .i64 0, .int .i64 0, .int .i64 65535, .int .i64 65535] 3))) := Lib.hid (HWw3.out.alloc HWw3.out.size _)
  have HB5 := Lib.hid (HBw3.out.alloc (.cells #[.int .i64 0, .int .i64 0, .int .i64 65535, .int .i64 65535] 3))
  obtain ⟨gq, hgq⟩ : ∃ g, w3.heap.size = g := ⟨_, rfl⟩
  rw [hgq] at HL5 ⊢
  generalize hw5 : w3.alloc (.cells #[.int .i64 0, .int .i64 0, .int .i64 65535, .int .i64 65535] 3) = w5 at *
  clear hgq hw5
  have HNB : Hid (∀ x ∈ [0, 0, 65535, 65535], x < 4294967296) := Lib.hid (by intro x hx; simp at hx; omega)
  go_loopw [5, 32] (fun o i wr => ∃ (j : Nat) (A : Option Addr) (c : Nat), j ≤ 4 ∧ i = .int .i64 (j : Nat) ∧ o = .slice A (80 + 2 * j) c ∧ Hid (Bs wr (fun b => w0.heap.size ≤ b) A (80 + 2 * j) (pre ++ fl 2 ([0, 0, 65535, 65535].take j))) ∧ Hid (Below w5.heap.size w5 wr)) (fun _ i _ => 4 - (intOf i).toNat)
  case atStart => exact ⟨0, _, _, Nat.zero_le _, rfl, rfl, Lib.hid (by simpa [fl] using HB5.out), Lib.hid (Below.refl _ _)⟩
  case round =>
    obtain ⟨j, A, c, hj, rfl, rfl, HB, HB5'⟩ := hrel
    by_cases hlt : j < 4
    · obtain ⟨b, off, hA, _, _, hc⟩ := (HL5.out.below HB5'.out).int_at (ns := natI [0, 0, 65535, 65535]) hlt
      injection hA with hA
      injection hA with q1 q2 _
      subst q1 q2
      rw [show (natI [0, 0, 65535, 65535]).getD j 0 = (([0, 0, 65535, 65535].getD j 0 : Nat) : Int) from getD_mapI _ _, Nat.zero_add] at hc
      have HT := Lib.hid (fl_take 2 [0, 0, 65535, 65535] j hlt)
      have hvb : [0, 0, 65535, 65535].getD j 0 < 4294967296 := by
        rw [List.getD_eq_getElem?_getD, List.getElem?_eq_getElem (show j < [0, 0, 65535, 65535].length from hlt)]
        exact HNB.out _ (List.getElem_mem _)
      generalize [0, 0, 65535, 65535].getD j 0 = v at hc HT hvb
      obtain ⟨m, hm⟩ : ∃ m, 80 + 2 * j = m := ⟨_, rfl⟩
      rw [hm] at HB ⊢
      have hmb : m ≤ 1000 := by omega
      have HM := Lib.hid hm
      clear hm
      go_wp2_with fail
      refine (append_right A m c (pre ++ fl 2 ([0, 0, 65535, 65535].take j)) _ 2 v wr HB.out (by omega) (by omega) (by omega) (by omega)).mono ?_
      rintro e wq ⟨A', c', rfl, ho, hb⟩
      have HBq : Hid (Bs wq (fun b => w0.heap.size ≤ b) A' (80 + 2 * (j + 1)) (pre ++ fl 2 ([0, 0, 65535, 65535].take (j + 1)))) := Lib.hid (by
        rw [HT.out, ← List.append_assoc, show 80 + 2 * (j + 1) = m + 2 by have := HM.out; omega]
        exact (Bs.of_own ho).mono fun b h => Nat.le_trans (Nat.le_trans HW5.out.size HB5'.out.size) h)
      have HWq := Lib.hid (HB5'.out.trans (hb.mono HB5'.out.size))
      clear ho hb
      go_wp2
      go_round
      case rel => exact ⟨j + 1, A', c', by omega, by go_num, by rw [show 80 + 2 * (j + 1) = m + 2 by have := HM.out; omega], HBq, HWq⟩
      case measure => simp [intOf]; omega
    · obtain rfl : j = 4 := by omega
      rw [show [0, 0, 65535, 65535].take 4 = [0, 0, 65535, 65535] from rfl] at HB
      have HWwr := Lib.hid (HW5.out.trans (HB5'.out.mono HW5.out.size))
      clear HB5' hlt hj
      have HBwr : Hid (Bs wr (fun b => w0.heap.size ≤ b) A 88 (pre ++ fl 2 [0, 0, 65535, 65535])) := HB
      clear HB HNB
      obtain ⟨pre2, hpre2⟩ : ∃ p, pre ++ fl 2 [0, 0, 65535, 65535] = p := ⟨_, rfl⟩
      rw [hpre2] at HBwr
      have HPRE2 := Lib.hid hpre2
      clear hpre2
      go_wp2_with fail
      refine (append_right A 88 c (pre2) _ 4 4294967295 wr HBwr.out (by omega) (by omega) (by omega) (by omega)).mono ?_
      rintro e w6 ⟨Aw6, cw6, rfl, ho, hb⟩
      have HBw6 : Hid (Bs w6 (fun b => w0.heap.size ≤ b) Aw6 92 (pre2 ++ leB 4294967295 4)) := Lib.hid ((Bs.of_own ho).mono fun b h => Nat.le_trans HWwr.out.size h)
      have HWw6 : Hid (Below w0.heap.size w0 w6) := Lib.hid (HWwr.out.trans (hb.mono HWwr.out.size))
      clear ho hb
      go_wp2_with fail
      refine (append_right Aw6 92 cw6 (pre2 ++ leB 4294967295 4) _ 4 4294967295 w6 HBw6.out (by omega) (by omega) (by omega) (by omega)).mono ?_
      rintro e w7 ⟨Aw7, cw7, rfl, ho, hb⟩
      have HBw7 : Hid (Bs w7 (fun b => w0.heap.size ≤ b) Aw7 96 (pre2 ++ leB 4294967295 4 ++ leB 4294967295 4)) := Lib.hid ((Bs.of_own ho).mono fun b h => Nat.le_trans HWw6.out.size h)
      have HWw7 : Hid (Below w0.heap.size w0 w7) := Lib.hid (HWw6.out.trans (hb.mono HWw6.out.size))
      clear ho hb
      go_wp2_with fail
      refine (append_right Aw7 96 cw7 (pre2 ++ leB 4294967295 4 ++ leB 4294967295 4) _ 2 0 w7 HBw7.out (by omega) (by omega) (by omega) (by omega)).mono ?_
      rintro e w8 ⟨Aw8, cw8, rfl, ho, hb⟩
      have HBw8 : Hid (Bs w8 (fun b => w0.heap.size ≤ b) Aw8 98 (pre2 ++ leB 4294967295 4 ++ leB 4294967295 4 ++ leB 0 2)) := Lib.hid ((Bs.of_own ho).mono fun b h => Nat.le_trans HWw7.out.size h)
      have HWw8 : Hid (Below w0.heap.size w0 w8) := Lib.hid (HWw7.out.trans (hb.mono HWw7.out.size))
      clear ho hb
      go_wp2
      go_ret2
      refine ⟨Aw8, cw8, rfl, ?_, HW0.out.trans (HWw8.out.mono HW0.out.size)⟩
      have := HBw8.out.mono (T := fun b => w.heap.size ≤ b) (fun b hb => Nat.le_trans HW0.out.size hb)
      unfold enc
      rw [if_pos rfl]
      unfold encT
      rw [← HPRE2.out, ← HPRE.out] at this
      simpa only [List.append_assoc] using this
theorem encode_bad (n s a : Int) (wd : Bool) (w : World) (h : okT n s a = false) : Calls Try.prog 7 #[.agg #[.int .i64 n, .int .i64 s, .int .i64 a, .bool wd]] w fun e w' => e = .returned (.tuple #[.slice none 0 0, .int .i64 13]) ∧ Below w.heap.size w w' := by
  have HC : Hid (∀ w, Calls Try.prog 10 #[.agg #[.int .i64 n, .int .i64 s, .int .i64 a, .bool wd]] w fun e w' => e = .returned (.int .i64 13) ∧ Below w.heap.size w w') := Lib.hid (fun w => by
    have := check_any n s a wd w
    rwa [h, if_neg (by simp)] at this)
  clear h
  go_enter Try.func7, Try.ntmps7
  go_wp2_with fail
  refine (HC.out _).mono ?_
  rintro e' w1 ⟨rfl, hb1⟩
  have HB : Hid (Below w.heap.size w w1) := Lib.hid (((Below.refl w.heap.size w).alloc (Nat.le_refl _) (.cells #[.int .i64 n, .int .i64 s, .int .i64 a, .bool wd] 23)).trans (hb1.mono (by simp)))
  clear hb1
  go_wp2
  go_ret2
  exact ⟨rfl, HB.out⟩
end Go.Proofs.Ytgjkkapopjpohaa
