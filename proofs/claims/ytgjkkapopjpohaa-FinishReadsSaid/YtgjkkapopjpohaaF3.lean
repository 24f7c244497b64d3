/- The records of an end. -/
import Derived.Test.YtgjkkapopjpohaaF2
namespace Go.Proofs.Ytgjkkapopjpohaa
open Go.RowKit

/-- Numbers of so many bytes. -/
def fl (k : Nat) (l : List Nat) : List UInt8 := l.flatMap fun v => leB v k
theorem fl_len (k : Nat) (l : List Nat) : (fl k l).length = k * l.length := by
  induction l with
  | nil => rfl
  | cons v l ih => show (leB v k ++ fl k l).length = _; rw [List.length_append, leB_len, ih, List.length_cons, Nat.mul_succ, Nat.add_comm]
theorem fl_take (k : Nat) (l : List Nat) (j : Nat) (h : j < l.length) : fl k (l.take (j + 1)) = fl k (l.take j) ++ leB (l.getD j 0) k := by
  unfold fl
  rw [List.take_succ_eq_append_getElem h, List.flatMap_append, List.getD_eq_getElem?_getD, List.getElem?_eq_getElem h]
  simp only [List.flatMap_cons, List.flatMap_nil, List.append_nil, Option.getD_some]
theorem getD_mapI (l : List Nat) (j : Nat) : (l.map fun (v : Nat) => (v : Int)).getD j 0 = ((l.getD j 0 : Nat) : Int) := by
  rw [List.getD_eq_getElem?_getD, List.getD_eq_getElem?_getD, List.getElem?_map]
  cases l[j]? <;> rfl
def natI (l : List Nat) : List Int := l.map fun (v : Nat) => (v : Int)
def encT (n s a : Nat) : List UInt8 := leB 101010256 4 ++ fl 2 [0, 0, n, n] ++ leB s 4 ++ leB a 4 ++ leB 0 2
def encW (n s a : Nat) : List UInt8 := leB 101075792 4 ++ leB 44 8 ++ leB 813 2 ++ leB 45 2 ++ fl 4 [0, 0] ++ fl 8 [n, n, s, a] ++ leB 117853008 4 ++ leB 0 4 ++ leB (a + s) 8 ++ leB 1 4
/-- The record of an end. -/
def enc (n s a : Nat) (wd : Bool) : List UInt8 := if wd = true then encW n s a ++ encT 65535 4294967295 4294967295 else encT n s a
def Ret (w : World) (k : Nat) (bs : List UInt8) (e : Ending) (w' : World) : Prop := ∃ A c, e = .returned (.slice A k c) ∧ Bs w' (fun b => w.heap.size ≤ b) A k bs ∧ Below w.heap.size w w'
set_option maxRecDepth 100000 in
set_option maxHeartbeats 4000000 in
theorem wide_any (n s a : Nat) (wd : Bool) (w : World) (hn : n ≤ 1000) (hs : s < 4294967295) (ha : a < 4294967295) : Calls Try.prog 14 #[.agg #[.int .i64 (n : Nat), .int .i64 (s : Nat), .int .i64 (a : Nat), .bool wd]] w (Ret w 76 (encW n s a)) := by
  go_enter Try.func14, Try.ntmps14
  go_wp2_with fail
  obtain ⟨w0, hw0⟩ : ∃ w0, w.alloc (.cells #[.int .i64 (n : Nat), .int .i64 (s : Nat), .int .i64 (a : Nat), .bool wd] 23) = w0 := ⟨_, rfl⟩
  rw [hw0]
  have HW0 : Hid (Below w.heap.size w w0) := Lib.hid (hw0 ▸ (Below.refl _ _).alloc (Nat.le_refl _) _)
  have HWw0 : Hid (Below w0.heap.size w0 w0) := Lib.hid (Below.refl _ _)
  have HR : Hid (Whole w0 w.heap.size 23 #[.int .i64 (n : Nat), .int .i64 (s : Nat), .int .i64 (a : Nat), .bool wd]) := Lib.hid (hw0 ▸ Whole.new w 23 _ rfl)
  have hgl := HR.out.lt
  have HGL := Lib.hid hgl
  have HE : Hid (Bs w0 (fun _ => True) none 0 []) := Lib.hid (Bs.empty _ _ _)
  clear hw0 hgl
  refine (append_right none 0 0 ([]) _ 4 101075792 w0 HE.out (by omega) (by omega) (by omega) (by omega)).mono ?_
  rintro e w1 ⟨Aw1, cw1, rfl, ho, hb⟩
  have HBw1 : Hid (Bs w1 (fun b => w0.heap.size ≤ b) Aw1 4 (leB 101075792 4)) := Lib.hid ((Bs.of_own (show _ from ho)).mono fun b h => Nat.le_trans HWw0.out.size h)
  have HWw1 : Hid (Below w0.heap.size w0 w1) := Lib.hid (HWw0.out.trans (hb.mono HWw0.out.size))
  clear ho hb
  go_wp2_with fail
  refine (append_right Aw1 4 cw1 (leB 101075792 4) _ 8 44 w1 HBw1.out (by omega) (by omega) (by omega) (by omega)).mono ?_
  rintro e w2 ⟨Aw2, cw2, rfl, ho, hb⟩
  have HBw2 : Hid (Bs w2 (fun b => w0.heap.size ≤ b) Aw2 12 (leB 101075792 4 ++ leB 44 8)) := Lib.hid ((Bs.of_own ho).mono fun b h => Nat.le_trans HWw1.out.size h)
  have HWw2 : Hid (Below w0.heap.size w0 w2) := Lib.hid (HWw1.out.trans (hb.mono HWw1.out.size))
  clear ho hb
  go_wp2_with fail
  refine (append_right Aw2 12 cw2 (leB 101075792 4 ++ leB 44 8) _ 2 813 w2 HBw2.out (by omega) (by omega) (by omega) (by omega)).mono ?_
  rintro e w3 ⟨Aw3, cw3, rfl, ho, hb⟩
  have HBw3 : Hid (Bs w3 (fun b => w0.heap.size ≤ b) Aw3 14 (leB 101075792 4 ++ leB 44 8 ++ leB 813 2)) := Lib.hid ((Bs.of_own ho).mono fun b h => Nat.le_trans HWw2.out.size h)
  have HWw3 : Hid (Below w0.heap.size w0 w3) := Lib.hid (HWw2.out.trans (hb.mono HWw2.out.size))
  clear ho hb
  go_wp2_with fail
  refine (append_right Aw3 14 cw3 (leB 101075792 4 ++ leB 44 8 ++ leB 813 2) _ 2 45 w3 HBw3.out (by omega) (by omega) (by omega) (by omega)).mono ?_
  rintro e w4 ⟨Aw4, cw4, rfl, ho, hb⟩
  have HBw4 : Hid (Bs w4 (fun b => w0.heap.size ≤ b) Aw4 16 (leB 101075792 4 ++ leB 44 8 ++ leB 813 2 ++ leB 45 2)) := Lib.hid ((Bs.of_own ho).mono fun b h => Nat.le_trans HWw3.out.size h)
  have HWw4 : Hid (Below w0.heap.size w0 w4) := Lib.hid (HWw3.out.trans (hb.mono HWw3.out.size))
  clear ho hb
  obtain ⟨pre, hpre⟩ : ∃ pre, leB 101075792 4 ++ leB 44 8 ++ leB 813 2 ++ leB 45 2 = pre := ⟨_, rfl⟩
  rw [hpre] at HBw4
  have HPRE := Lib.hid hpre
  clear hpre
  go_wp2
  have HL0 := Lib.hid ((Lst.new (size := 1) w4 3 #[.int .i64 0, .int .i64 0] 2 rfl (fr := (0, 0)) rfl).mono (fun b e => (e ▸ Nat.le_refl w4.heap.size : w4.heap.size ≤ b)))
  have HW5 : Hid (Below w0.heap.size w0 (w4.alloc (.cells #[.int .i64 0, .int .i64 0] 3))) := Lib.hid (HWw4.out.alloc HWw4.out.size _)
  have HB5 := Lib.hid (HBw4.out.alloc (.cells #[.int .i64 0, .int .i64 0] 3))
  generalize w4.alloc (.cells #[.int .i64 0, .int .i64 0] 3) = w5 at *
  have HNB : Hid (∀ x ∈ [0, 0], x < 4294967296) := Lib.hid (by intro x hx; simp at hx; omega)
  go_loopw [3, 17] (fun o i wr => ∃ (j : Nat) (A : Option Addr) (c : Nat), j ≤ 2 ∧ i = .int .i64 (j : Nat) ∧ o = .slice A (16 + 4 * j) c ∧ Hid (Bs wr (fun b => w0.heap.size ≤ b) A (16 + 4 * j) (pre ++ fl 4 ([0, 0].take j))) ∧ Hid (Below w5.heap.size w5 wr)) (fun _ i _ => 2 - (intOf i).toNat)
  case atStart => exact ⟨0, _, _, Nat.zero_le _, rfl, rfl, Lib.hid (by simpa [fl] using HB5.out), Lib.hid (Below.refl _ _)⟩
  case round =>
    obtain ⟨j, A, c, hj, rfl, rfl, HB, HB5'⟩ := hrel
    by_cases hlt : j < 2
    · obtain ⟨b, off, hA, _, _, hc⟩ := (HL0.out.below HB5'.out).int_at (ns := natI [0, 0]) hlt
      injection hA with hA
      injection hA with q1 q2 _
      subst q1 q2
      rw [show (natI [0, 0]).getD j 0 = (([0, 0].getD j 0 : Nat) : Int) from getD_mapI _ _, Nat.zero_add] at hc
      have HT := Lib.hid (fl_take 4 [0, 0] j hlt)
      have hvb : [0, 0].getD j 0 < 4294967296 := by
        rw [List.getD_eq_getElem?_getD, List.getElem?_eq_getElem (show j < [0, 0].length from hlt)]
        exact HNB.out _ (List.getElem_mem _)
      generalize [0, 0].getD j 0 = v at hc HT hvb
      obtain ⟨m, hm⟩ : ∃ m, 16 + 4 * j = m := ⟨_, rfl⟩
      rw [hm] at HB ⊢
      have hmb : m ≤ 1000 := by omega
      have HM := Lib.hid hm
      clear hm
      go_wp2_with fail
      refine (append_right A m c (pre ++ fl 4 ([0, 0].take j)) _ 4 v wr HB.out (by omega) (by omega) (by omega) (by omega)).mono ?_
      rintro e wq ⟨A', c', rfl, ho, hb⟩
      have HBq : Hid (Bs wq (fun b => w0.heap.size ≤ b) A' (16 + 4 * (j + 1)) (pre ++ fl 4 ([0, 0].take (j + 1)))) := Lib.hid (by
        rw [HT.out, ← List.append_assoc, show 16 + 4 * (j + 1) = m + 4 by have := HM.out; omega]
        exact (Bs.of_own ho).mono fun b h => Nat.le_trans (Nat.le_trans HW5.out.size HB5'.out.size) h)
      have HWq := Lib.hid (HB5'.out.trans (hb.mono HB5'.out.size))
      clear ho hb
      go_wp2
      go_round
      case rel => exact ⟨j + 1, A', c', by omega, by go_num, by rw [show 16 + 4 * (j + 1) = m + 4 by have := HM.out; omega], HBq, HWq⟩
      case measure => simp [intOf]; omega
    · obtain rfl : j = 2 := by omega
      rw [show [0, 0].take 2 = [0, 0] from rfl] at HB
      have HWwr := Lib.hid (HW5.out.trans (HB5'.out.mono HW5.out.size))
      clear HB5' hlt hj
      have HBwr : Hid (Bs wr (fun b => w0.heap.size ≤ b) A 24 (pre ++ fl 4 [0, 0])) := HB
      have hr : Whole wr w.heap.size 23 #[.int .i64 (n : Nat), .int .i64 (s : Nat), .int .i64 (a : Nat), .bool wd] := HR.out.below' HWwr.out
      have r0 := hr.cell 0
      have r1 := hr.cell 1
      have r2 := hr.cell 2
      simp at r0 r1 r2
      clear HB HNB hr
      go_wp2
      have HL6 := Lib.hid ((Lst.new (size := 1) wr 3 #[.int .i64 (n : Nat), .int .i64 (n : Nat), .int .i64 (s : Nat), .int .i64 (a : Nat)] 4 rfl (fr := (0, 0)) rfl).mono (fun b e => (e ▸ Nat.le_refl wr.heap.size : wr.heap.size ≤ b)))
      have HW6 : Hid (Below w0.heap.size w0 (wr.alloc (.cells #[.int .i64 (n : Nat), .int .i64 (n : Nat), .int .i64 (s : Nat), .int .i64 (a : Nat)] 3))) := Lib.hid (HWwr.out.alloc HWwr.out.size _)
      have HB6 := Lib.hid (HBwr.out.alloc (.cells #[.int .i64 (n : Nat), .int .i64 (n : Nat), .int .i64 (s : Nat), .int .i64 (a : Nat)] 3))
      clear r0 r1 r2 HWwr HBwr
      obtain ⟨gq, hgq⟩ : ∃ g, wr.heap.size = g := ⟨_, rfl⟩
      rw [hgq] at HL6 ⊢
      generalize wr.alloc (.cells #[.int .i64 (n : Nat), .int .i64 (n : Nat), .int .i64 (s : Nat), .int .i64 (a : Nat)] 3) = w6 at *
      clear hgq
      obtain ⟨pre2, hpre2⟩ : ∃ p, pre ++ fl 4 [0, 0] = p := ⟨_, rfl⟩
      rw [hpre2] at HB6
      have HPRE2 := Lib.hid hpre2
      clear hpre2
      have HNB : Hid (∀ x ∈ [n, n, s, a], x < 4294967296) := Lib.hid (by intro x hx; simp at hx; omega)
      go_loopw [3, 36] (fun o i wr => ∃ (j : Nat) (A : Option Addr) (c : Nat), j ≤ 4 ∧ i = .int .i64 (j : Nat) ∧ o = .slice A (24 + 8 * j) c ∧ Hid (Bs wr (fun b => w0.heap.size ≤ b) A (24 + 8 * j) (pre2 ++ fl 8 ([n, n, s, a].take j))) ∧ Hid (Below w6.heap.size w6 wr)) (fun _ i _ => 4 - (intOf i).toNat)
      case atStart => exact ⟨0, _, _, Nat.zero_le _, rfl, rfl, Lib.hid (by simpa [fl] using HB6.out), Lib.hid (Below.refl _ _)⟩
      case round =>
        obtain ⟨j, A, c, hj, rfl, rfl, HB, HB5'⟩ := hrel
        by_cases hlt : j < 4
        · obtain ⟨b, off, hA, _, _, hc⟩ := (HL6.out.below HB5'.out).int_at (ns := natI [n, n, s, a]) hlt
          injection hA with hA
          injection hA with q1 q2 _
          subst q1 q2
          rw [show (natI [n, n, s, a]).getD j 0 = (([n, n, s, a].getD j 0 : Nat) : Int) from getD_mapI _ _, Nat.zero_add] at hc
          have HT := Lib.hid (fl_take 8 [n, n, s, a] j hlt)
          have hvb : [n, n, s, a].getD j 0 < 4294967296 := by
            rw [List.getD_eq_getElem?_getD, List.getElem?_eq_getElem (show j < [n, n, s, a].length from hlt)]
            exact HNB.out _ (List.getElem_mem _)
          generalize [n, n, s, a].getD j 0 = v at hc HT hvb
          obtain ⟨m, hm⟩ : ∃ m, 24 + 8 * j = m := ⟨_, rfl⟩
          rw [hm] at HB ⊢
          have hmb : m ≤ 1000 := by omega
          have HM := Lib.hid hm
          clear hm
          go_wp2_with fail
          refine (append_right A m c (pre2 ++ fl 8 ([n, n, s, a].take j)) _ 8 v wr HB.out (by omega) (by omega) (by omega) (by omega)).mono ?_
          rintro e wq ⟨A', c', rfl, ho, hb⟩
          have HBq : Hid (Bs wq (fun b => w0.heap.size ≤ b) A' (24 + 8 * (j + 1)) (pre2 ++ fl 8 ([n, n, s, a].take (j + 1)))) := Lib.hid (by
            rw [HT.out, ← List.append_assoc, show 24 + 8 * (j + 1) = m + 8 by have := HM.out; omega]
            exact (Bs.of_own ho).mono fun b h => Nat.le_trans (Nat.le_trans HW6.out.size HB5'.out.size) h)
          have HWq := Lib.hid (HB5'.out.trans (hb.mono HB5'.out.size))
          clear ho hb
          go_wp2
          go_round
          case rel => exact ⟨j + 1, A', c', by omega, by go_num, by rw [show 24 + 8 * (j + 1) = m + 8 by have := HM.out; omega], HBq, HWq⟩
          case measure => simp [intOf]; omega
        · obtain rfl : j = 4 := by omega
          rw [show [n, n, s, a].take 4 = [n, n, s, a] from rfl] at HB
          have HWwr := Lib.hid (HW6.out.trans (HB5'.out.mono HW6.out.size))
          clear HB5' hlt hj
          have HBwr : Hid (Bs wr (fun b => w0.heap.size ≤ b) A 56 (pre2 ++ fl 8 [n, n, s, a])) := HB
          have hr : Whole wr w.heap.size 23 #[.int .i64 (n : Nat), .int .i64 (s : Nat), .int .i64 (a : Nat), .bool wd] := HR.out.below' HWwr.out
          have HRwr := Lib.hid hr
          clear HB HNB hr
          obtain ⟨pre3, hpre3⟩ : ∃ p, pre2 ++ fl 8 [n, n, s, a] = p := ⟨_, rfl⟩
          rw [hpre3] at HBwr
          have HPRE3 := Lib.hid hpre3
          clear hpre3
          go_wp2_with fail
          refine (append_right A 56 c (pre3) _ 4 117853008 wr HBwr.out (by omega) (by omega) (by omega) (by omega)).mono ?_
          rintro e w7 ⟨Aw7, cw7, rfl, ho, hb⟩
          have HBw7 : Hid (Bs w7 (fun b => w0.heap.size ≤ b) Aw7 60 (pre3 ++ leB 117853008 4)) := Lib.hid ((Bs.of_own ho).mono fun b h => Nat.le_trans HWwr.out.size h)
          have HWw7 : Hid (Below w0.heap.size w0 w7) := Lib.hid (HWwr.out.trans (hb.mono HWwr.out.size))
          clear ho hb
          go_wp2_with fail
          refine (append_right Aw7 60 cw7 (pre3 ++ leB 117853008 4) _ 4 0 w7 HBw7.out (by omega) (by omega) (by omega) (by omega)).mono ?_
          rintro e w8 ⟨Aw8, cw8, rfl, ho, hb⟩
          have HBw8 : Hid (Bs w8 (fun b => w0.heap.size ≤ b) Aw8 64 (pre3 ++ leB 117853008 4 ++ leB 0 4)) := Lib.hid ((Bs.of_own ho).mono fun b h => Nat.le_trans HWw7.out.size h)
          have HWw8 : Hid (Below w0.heap.size w0 w8) := Lib.hid (HWw7.out.trans (hb.mono HWw7.out.size))
          clear ho hb
          have hr : Whole w8 w.heap.size 23 #[.int .i64 (n : Nat), .int .i64 (s : Nat), .int .i64 (a : Nat), .bool wd] := HR.out.below' HWw8.out
          have r1 := hr.cell 1
          have r2 := hr.cell 2
          simp at r1 r2
          obtain ⟨z, hz⟩ : ∃ z, a + s = z := ⟨_, rfl⟩
          have ez : (a : Int) + (s : Int) = (z : Int) := by omega
          have hzb : z < 8589934592 := by omega
          have HZ := Lib.hid hz
          clear hz hr
          go_wp2_with fail
          refine (append_right Aw8 64 cw8 (pre3 ++ leB 117853008 4 ++ leB 0 4) _ 8 z w8 HBw8.out (by omega) (by omega) (by omega) (by omega)).mono ?_
          rintro e w9 ⟨Aw9, cw9, rfl, ho, hb⟩
          have HBw9 : Hid (Bs w9 (fun b => w0.heap.size ≤ b) Aw9 72 (pre3 ++ leB 117853008 4 ++ leB 0 4 ++ leB z 8)) := Lib.hid ((Bs.of_own ho).mono fun b h => Nat.le_trans HWw8.out.size h)
          have HWw9 : Hid (Below w0.heap.size w0 w9) := Lib.hid (HWw8.out.trans (hb.mono HWw8.out.size))
          clear ho hb
          clear r1 r2
          go_wp2_with fail
          refine (append_right Aw9 72 cw9 (pre3 ++ leB 117853008 4 ++ leB 0 4 ++ leB z 8) _ 4 1 w9 HBw9.out (by omega) (by omega) (by omega) (by omega)).mono ?_
          rintro e w10 ⟨Aw10, cw10, rfl, ho, hb⟩
          have HBw10 : Hid (Bs w10 (fun b => w0.heap.size ≤ b) Aw10 76 (pre3 ++ leB 117853008 4 ++ leB 0 4 ++ leB z 8 ++ leB 1 4)) := Lib.hid ((Bs.of_own ho).mono fun b h => Nat.le_trans HWw9.out.size h)
          have HWw10 : Hid (Below w0.heap.size w0 w10) := Lib.hid (HWw9.out.trans (hb.mono HWw9.out.size))
          clear ho hb
          go_wp2
          go_ret
          refine ⟨Aw10, cw10, rfl, ?_, HW0.out.trans (HWw10.out.mono HW0.out.size)⟩
          have := HBw10.out.mono (T := fun b => w.heap.size ≤ b) (fun b hb => Nat.le_trans HW0.out.size hb)
          unfold encW
          rw [← HPRE3.out, ← HPRE2.out, ← HPRE.out, ← HZ.out] at this
          exact this
end Go.Proofs.Ytgjkkapopjpohaa
