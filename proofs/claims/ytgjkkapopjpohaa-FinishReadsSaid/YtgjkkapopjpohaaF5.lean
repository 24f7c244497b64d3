/- The page's Put and Encode. -/
import Derived.Test.YtgjkkapopjpohaaF4
namespace Go.Proofs.Ytgjkkapopjpohaa
open Go.RowKit

theorem own_below {w w' : World} {base size n : Nat} {e : TypeId} {v : Value} {xs : List Value} (h : w.ownsRow base e size v n xs) (hb : Below w.heap.size w w') : w'.ownsRow base e size v n xs := by
  have hlt := h.lt
  obtain ⟨h1, h2⟩ := h
  refine ⟨h1, ?_⟩
  rcases h2 with ⟨h3, h4⟩ | ⟨g, cap, cur, hv, hb', hh, x⟩
  · exact .inl ⟨h3, h4⟩
  · subst hv
    exact .inr ⟨g, cap, cur, rfl, hb', (hb.block g (hlt g rfl).2).trans hh, x⟩
theorem own_base {w : World} {base base' size n : Nat} {e : TypeId} {v : Value} {xs : List Value} (h : w.ownsRow base e size v n xs) (hb : base' ≤ base) : w.ownsRow base' e size v n xs := by
  obtain ⟨h1, h2⟩ := h
  refine ⟨h1, ?_⟩
  rcases h2 with h3 | ⟨g, cap, cur, hv, hb', x⟩
  · exact .inl h3
  · exact .inr ⟨g, cap, cur, hv, Nat.le_trans hb hb', x⟩
def RetO (w : World) (k : Nat) (bs : List UInt8) (e : Ending) (w' : World) : Prop := ∃ A c, e = .returned (.slice A k c) ∧ w'.ownsRow w.heap.size 5 1 (.slice A k c) k (bs.map bv) ∧ Below w.heap.size w w'
def u64v (v : Nat) : Value := .int .u64 (v : Int)
set_option maxHeartbeats 1000000 in
theorem rputs_any (k : Nat) (l : List Nat) (A : Option Addr) (m c : Nat) (S : Nat → Prop) (w : World) (hk : k ≤ 8) (hv : ∀ v ∈ l, v < 18446744073709551616) (hL : Lst w S 1 A m (l.map u64v)) (hm : m ≤ 1000) :
    Calls Try.prog 16 #[.int .i64 (k : Nat), .slice A m c] w (RetO w (k * m) (fl k l)) := by
  obtain ⟨i0, hi, hz0, hz1, hz2⟩ := info_parts info5
  have hl : l.length = m := by have := hL.len; simpa using this
  subst hl
  have HL := Lib.hid hL
  have HV := Lib.hid hv
  clear hL hv
  go_enter Try.func16, Try.ntmps16
  go_wp2
  go_loopw [5, 6] (fun o i wr => ∃ (j q : Nat) (A2 : Option Addr) (c2 : Nat), j ≤ l.length ∧ i = .int .i64 (j : Nat) ∧ Hid (k * j = q) ∧ q ≤ 8 * j ∧ o = .slice A2 q c2 ∧ Hid (wr.ownsRow w.heap.size 5 1 (.slice A2 q c2) q ((fl k (l.take j)).map bv)) ∧ Hid (Below w.heap.size w wr)) (fun _ i _ => l.length - (intOf i).toNat)
  case atStart => exact ⟨0, 0, none, 0, Nat.zero_le _, rfl, Lib.hid (by omega), by omega, rfl, Lib.hid (World.ownsRow_nil _ _ _ _), Lib.hid (Below.refl _ _)⟩
  case round =>
    obtain ⟨j, q, A2, c2, hj, rfl, HQ, hq, rfl, HO, HB⟩ := hrel
    by_cases hlt : j < l.length
    · obtain ⟨b, off, rfl, _, _, hc⟩ := (HL.out.below HB.out).2 (by omega)
      have hc1 := hc j (u64v (l.getD j 0)) (by rw [List.getElem?_map, List.getD_eq_getElem?_getD, List.getElem?_eq_getElem hlt]; rfl)
      have HT := Lib.hid (fl_take k l j hlt)
      have hvb : l.getD j 0 < 18446744073709551616 := by
        rw [List.getD_eq_getElem?_getD, List.getElem?_eq_getElem hlt]
        exact HV.out _ (List.getElem_mem hlt)
      unfold u64v at hc1
      generalize l.getD j 0 = v at hc1 HT hvb
      have HVB := Lib.hid hvb
      clear hc hvb
      go_wp2_with fail
      refine (rbytes_any v k wr HVB.out hk).mono ?_
      rintro e w2 ⟨A3, c3, rfl, ho3, hb3⟩
      have HO2 := Lib.hid (own_below HO.out hb3)
      have HB2 := Lib.hid (HB.out.trans (hb3.mono HB.out.size))
      have HO3 := Lib.hid ho3
      clear ho3 hb3
      go_wp2_with (at_builtin; refine wpList_append_list _ rfl (.tmp 13) (.tmp 19) 25 rfl w.heap.size 5 i0 (.int .u8 0) 1 1 Try.underlying25 hi hz0 hz1 hz2 rfl (by decide) _ q _ rfl HO2.out _ A3 k c3 _ rfl (Lst.of_own HO3.out) oneCell_bytes (by unfold maxLen; omega) (by omega) HB2.out.size ?_)
      intro A4 c4 x4 hown4 hgrow4 hat4
      have HO4 : Hid (x4.ownsRow w.heap.size 5 1 (.slice A4 (q + k) c4) (q + k) ((fl k (l.take (j + 1))).map bv)) := Lib.hid (by rw [HT.out, List.map_append]; exact hown4)
      have HB4 := Lib.hid (HB2.out.grown hgrow4 HB2.out.size (fun g e => (HO2.out.lt g e).1))
      clear hown4 hgrow4 hat4
      go_wp2
      go_round
      case rel => exact ⟨j + 1, q + k, A4, c4, by omega, by go_num, Lib.hid (by rw [← HQ.out, Nat.mul_succ]), by omega, rfl, HO4, HB4⟩
      case measure => simp [intOf]; omega
    · obtain rfl : j = l.length := by omega
      rw [List.take_length] at HO
      go_wp2
      go_ret
      unfold RetO
      rw [HQ.out]
      exact ⟨A2, c2, rfl, HO.out, HB.out⟩
def encR (n s a : Nat) (wd : Bool) : List UInt8 :=
  if wd = true then fl 4 [101075792, 44, 0] ++ fl 2 [813, 45] ++ fl 4 [0, 0] ++ fl 8 [n, n, s, a] ++ fl 4 [117853008, 0] ++ fl 8 [a + s] ++ fl 4 [1, 101010256, 0, 4294967295, 4294967295, 4294967295] ++ [0, 0]
  else fl 4 [101010256] ++ fl 2 [0, 0, n, n] ++ fl 4 [s, a] ++ [0, 0]
theorem enc_eq (n s a : Nat) (wd : Bool) : enc n s a wd = encR n s a wd := by
  have e1 : leB 44 8 = leB 44 4 ++ leB 0 4 := by decide
  have e2 : ([0, 0] : List UInt8) = leB 0 2 := by decide
  have e3 : leB 0 2 ++ (leB 0 2 ++ (leB 65535 2 ++ leB 65535 2)) = leB 0 4 ++ leB 4294967295 4 := by decide
  unfold enc encR encW encT
  rw [e2]
  cases wd
  · simp [fl]
  · simp only [if_pos, fl, List.flatMap_cons, List.flatMap_nil, List.append_nil, List.append_assoc, e1]
    rw [← List.append_assoc (leB 65535 2), ← List.append_assoc (leB 0 2) _ (leB 4294967295 4 ++ _), ← List.append_assoc (leB 0 2) _ (leB 4294967295 4 ++ _), e3]
    simp only [List.append_assoc]
set_option maxRecDepth 100000 in
set_option maxHeartbeats 4000000 in
theorem renc_slim (n s a : Nat) (w : World) (hn : n ≤ 1000) (hs : s < 4294967295) (ha : a < 4294967295) : Calls Try.prog 11 #[.agg #[.int .i64 (n : Nat), .int .i64 (s : Nat), .int .i64 (a : Nat), .bool false]] w (RetO w 22 (encR n s a false)) := by
  obtain ⟨i0, hi, hz0, hz1, hz2⟩ := info_parts info5
  go_enter Try.func11, Try.ntmps11
  go_wp2_with fail
  obtain ⟨w0, hw0⟩ : ∃ w0, w.alloc (.cells #[.int .i64 (n : Nat), .int .i64 (s : Nat), .int .i64 (a : Nat), .bool false] 30) = w0 := ⟨_, rfl⟩
  rw [hw0]
  have HW0 : Hid (Below w.heap.size w w0) := Lib.hid (hw0 ▸ (Below.refl _ _).alloc (Nat.le_refl _) _)
  have hr : Whole w0 w.heap.size 30 #[.int .i64 (n : Nat), .int .i64 (s : Nat), .int .i64 (a : Nat), .bool false] := hw0 ▸ Whole.new w 30 _ rfl
  have r0 := hr.cell 0
  have r1 := hr.cell 1
  have r2 := hr.cell 2
  have r3 := hr.cell 3
  simp at r0 r1 r2 r3
  have u1 : IntKind.u64.wrap (n : Int) = (n : Int) := IntWalk.u64_in _ (by omega)
  have u2 : IntKind.u64.wrap (s : Int) = (s : Int) := IntWalk.u64_in _ (by omega)
  have u3 : IntKind.u64.wrap (a : Int) = (a : Int) := IntWalk.u64_in _ (by omega)
  clear hr hw0
  go_quiet (fail)
  have q3 : (w0.drewN nq).cell? ⟨w.heap.size, 3, none⟩ = some (.bool false) := r3
  have HWw1 : Hid (Below w0.heap.size w0 (w0.drewN nq)) := Lib.hid ((Below.refl _ _).drewN' nq)
  generalize w0.drewN nq = w1 at *
  clear r0 r1 r2 r3 u1 u2 u3
  go_wp2_with fail
  refine (rputs_any 4 [101010256] _ 1 1 _ _ (by omega) (by intro x hx; simp at hx; omega) (Lst.new (size := 1) w1 43 #[.int .u64 101010256] 1 rfl (fr := (0, 0)) rfl) (by omega)).mono ?_
  rintro e' w2 ⟨Aw2, cw2, rfl, ho, hb⟩
  have HWw2 : Hid (Below w0.heap.size w0 w2) := Lib.hid ((HWw1.out.alloc HWw1.out.size (.cells #[.int .u64 101010256] 43)).trans (hb.mono (by have := HWw1.out.size; simp; omega)))
  have HOw2 : Hid (w2.ownsRow w0.heap.size 5 1 (.slice Aw2 4 cw2) 4 ((fl 4 [101010256]).map bv)) := Lib.hid (own_base ho (by have := HWw1.out.size; simp; omega))
  clear ho hb q3
  go_wp2_with fail
  refine (rputs_any 2 [0, 0, n, n] _ 4 4 _ _ (by omega) (by intro x hx; simp at hx; omega) (Lst.new (size := 1) w2 43 #[.int .u64 0, .int .u64 0, .int .u64 (n : Nat), .int .u64 (n : Nat)] 4 rfl (fr := (0, 0)) rfl) (by omega)).mono ?_
  rintro e' qw3 ⟨Aqw3, cqw3, rfl, ho, hb⟩
  have HWqw3 : Hid (Below w0.heap.size w0 qw3) := Lib.hid ((HWw2.out.alloc HWw2.out.size (.cells #[.int .u64 0, .int .u64 0, .int .u64 (n : Nat), .int .u64 (n : Nat)] 43)).trans (hb.mono (by have := HWw2.out.size; simp; omega)))
  have HPqw3 : Hid (qw3.ownsRow w0.heap.size 5 1 (.slice Aqw3 8 cqw3) 8 ((fl 2 [0, 0, n, n]).map bv)) := Lib.hid (own_base ho (by have := HWw2.out.size; simp; omega))
  have HOqw3 : Hid (qw3.ownsRow w0.heap.size 5 1 (.slice Aw2 4 cw2) 4 ((fl 4 [101010256]).map bv)) := Lib.hid (own_below (World.ownsRow.alloc HOw2.out (.cells #[.int .u64 0, .int .u64 0, .int .u64 (n : Nat), .int .u64 (n : Nat)] 43)) hb)
  clear ho hb
  go_wp2_with (at_builtin; refine wpList_append_list _ rfl (.tmp 22) (.tmp 26) 25 rfl w0.heap.size 5 i0 (.int .u8 0) 1 1 Try.underlying25 hi hz0 hz1 hz2 rfl (by decide) _ 4 _ rfl HOqw3.out _ Aqw3 8 cqw3 _ rfl (Lst.of_own HPqw3.out) oneCell_bytes (by unfold maxLen; omega) (by omega) HWqw3.out.size ?_)
  intro Aw3 cw3 w3 hown hgrow hat
  have HOw3 : Hid (w3.ownsRow w0.heap.size 5 1 (.slice Aw3 12 cw3) 12 ((fl 4 [101010256] ++ fl 2 [0, 0, n, n]).map bv)) := Lib.hid (by rw [List.map_append]; exact hown)
  have HWw3 : Hid (Below w0.heap.size w0 w3) := Lib.hid (HWqw3.out.grown hgrow HWqw3.out.size (fun g e => (HOqw3.out.lt g e).1))
  clear hown hgrow hat
  go_wp2_with fail
  refine (rputs_any 4 [s, a] _ 2 2 _ _ (by omega) (by intro x hx; simp at hx; omega) (Lst.new (size := 1) w3 43 #[.int .u64 (s : Nat), .int .u64 (a : Nat)] 2 rfl (fr := (0, 0)) rfl) (by omega)).mono ?_
  rintro e' qw4 ⟨Aqw4, cqw4, rfl, ho, hb⟩
  have HWqw4 : Hid (Below w0.heap.size w0 qw4) := Lib.hid ((HWw3.out.alloc HWw3.out.size (.cells #[.int .u64 (s : Nat), .int .u64 (a : Nat)] 43)).trans (hb.mono (by have := HWw3.out.size; simp; omega)))
  have HPqw4 : Hid (qw4.ownsRow w0.heap.size 5 1 (.slice Aqw4 8 cqw4) 8 ((fl 4 [s, a]).map bv)) := Lib.hid (own_base ho (by have := HWw3.out.size; simp; omega))
  have HOqw4 : Hid (qw4.ownsRow w0.heap.size 5 1 (.slice Aw3 12 cw3) 12 ((fl 4 [101010256] ++ fl 2 [0, 0, n, n]).map bv)) := Lib.hid (own_below (World.ownsRow.alloc HOw3.out (.cells #[.int .u64 (s : Nat), .int .u64 (a : Nat)] 43)) hb)
  clear ho hb
  go_wp2_with (at_builtin; refine wpList_append_list _ rfl (.tmp 28) (.tmp 32) 25 rfl w0.heap.size 5 i0 (.int .u8 0) 1 1 Try.underlying25 hi hz0 hz1 hz2 rfl (by decide) _ 12 _ rfl HOqw4.out _ Aqw4 8 cqw4 _ rfl (Lst.of_own HPqw4.out) oneCell_bytes (by unfold maxLen; omega) (by omega) HWqw4.out.size ?_)
  intro Aw4 cw4 w4 hown hgrow hat
  have HOw4 : Hid (w4.ownsRow w0.heap.size 5 1 (.slice Aw4 20 cw4) 20 ((fl 4 [101010256] ++ fl 2 [0, 0, n, n] ++ fl 4 [s, a]).map bv)) := Lib.hid (by rw [List.map_append]; exact hown)
  have HWw4 : Hid (Below w0.heap.size w0 w4) := Lib.hid (HWqw4.out.grown hgrow HWqw4.out.size (fun g e => (HOqw4.out.lt g e).1))
  clear hown hgrow hat
  go_wp2_with (at_builtin; refine wpList_append_list _ rfl (.tmp 34) (.tmp 35) 25 rfl w0.heap.size 5 i0 (.int .u8 0) 1 1 Try.underlying25 hi hz0 hz1 hz2 rfl (by decide) _ 20 _ rfl (World.ownsRow.alloc HOw4.out _) _ (some ⟨w4.heap.size, 0, none⟩) 2 2 [.int .u8 0, .int .u8 0] rfl (Lst.new (size := 1) w4 5 #[.int .u8 0, .int .u8 0] 2 rfl rfl) (by simp [Value.oneCell']) (by unfold maxLen; omega) (by omega) (by have := HWw4.out.size; simp; omega) ?_)
  intro Aw5 cw5 w5 hown hgrow hat
  have HOw5 : Hid (w5.ownsRow w0.heap.size 5 1 (.slice Aw5 22 cw5) 22 ((fl 4 [101010256] ++ fl 2 [0, 0, n, n] ++ fl 4 [s, a] ++ [0, 0]).map bv)) := Lib.hid (by rw [List.map_append]; exact hown)
  have HWw5 : Hid (Below w0.heap.size w0 w5) := Lib.hid ((HWw4.out.alloc HWw4.out.size (.cells #[.int .u8 0, .int .u8 0] 5)).grown hgrow (by have := HWw4.out.size; simp; omega) (fun g e => (HOw4.out.lt g e).1))
  clear hown hgrow hat
  go_wp2
  go_ret
  refine ⟨Aw5, cw5, rfl, ?_, HW0.out.trans (HWw5.out.mono HW0.out.size)⟩
  exact own_base HOw5.out HW0.out.size
set_option maxRecDepth 100000 in
set_option maxHeartbeats 4000000 in
theorem renc_wide (n s a : Nat) (w : World) (hn : n ≤ 1000) (hs : s < 4294967295) (ha : a < 4294967295) : Calls Try.prog 11 #[.agg #[.int .i64 (n : Nat), .int .i64 (s : Nat), .int .i64 (a : Nat), .bool true]] w (RetO w 98 (encR n s a true)) := by
  obtain ⟨i0, hi, hz0, hz1, hz2⟩ := info_parts info5
  go_enter Try.func11, Try.ntmps11
  go_wp2_with fail
  obtain ⟨w0, hw0⟩ : ∃ w0, w.alloc (.cells #[.int .i64 (n : Nat), .int .i64 (s : Nat), .int .i64 (a : Nat), .bool true] 30) = w0 := ⟨_, rfl⟩
  rw [hw0]
  have HW0 : Hid (Below w.heap.size w w0) := Lib.hid (hw0 ▸ (Below.refl _ _).alloc (Nat.le_refl _) _)
  have hr : Whole w0 w.heap.size 30 #[.int .i64 (n : Nat), .int .i64 (s : Nat), .int .i64 (a : Nat), .bool true] := hw0 ▸ Whole.new w 30 _ rfl
  have r0 := hr.cell 0
  have r1 := hr.cell 1
  have r2 := hr.cell 2
  have r3 := hr.cell 3
  simp at r0 r1 r2 r3
  have u1 : IntKind.u64.wrap (n : Int) = (n : Int) := IntWalk.u64_in _ (by omega)
  have u2 : IntKind.u64.wrap (s : Int) = (s : Int) := IntWalk.u64_in _ (by omega)
  have u3 : IntKind.u64.wrap (a : Int) = (a : Int) := IntWalk.u64_in _ (by omega)
  clear hr hw0
  go_quiet (fail)
  have q3 : (w0.drewN nq).cell? ⟨w.heap.size, 3, none⟩ = some (.bool true) := r3
  have HWw1 : Hid (Below w0.heap.size w0 (w0.drewN nq)) := Lib.hid ((Below.refl _ _).drewN' nq)
  generalize w0.drewN nq = w1 at *
  clear r0 r1 r2 r3 u1 u2 u3
  go_wp2_with fail
  refine (rputs_any 4 [101075792, 44, 0] _ 3 3 _ _ (by omega) (by intro x hx; simp at hx; omega) (Lst.new (size := 1) w1 43 #[.int .u64 101075792, .int .u64 44, .int .u64 0] 3 rfl (fr := (0, 0)) rfl) (by omega)).mono ?_
  rintro e' w2 ⟨Aw2, cw2, rfl, ho, hb⟩
  have HWw2 : Hid (Below w0.heap.size w0 w2) := Lib.hid ((HWw1.out.alloc HWw1.out.size (.cells #[.int .u64 101075792, .int .u64 44, .int .u64 0] 43)).trans (hb.mono (by have := HWw1.out.size; simp; omega)))
  have HOw2 : Hid (w2.ownsRow w0.heap.size 5 1 (.slice Aw2 12 cw2) 12 ((fl 4 [101075792, 44, 0]).map bv)) := Lib.hid (own_base ho (by have := HWw1.out.size; simp; omega))
  clear ho hb q3
  go_wp2_with fail
  refine (rputs_any 2 [813, 45] _ 2 2 _ _ (by omega) (by intro x hx; simp at hx; omega) (Lst.new (size := 1) w2 43 #[.int .u64 813, .int .u64 45] 2 rfl (fr := (0, 0)) rfl) (by omega)).mono ?_
  rintro e' qw3 ⟨Aqw3, cqw3, rfl, ho, hb⟩
  have HWqw3 : Hid (Below w0.heap.size w0 qw3) := Lib.hid ((HWw2.out.alloc HWw2.out.size (.cells #[.int .u64 813, .int .u64 45] 43)).trans (hb.mono (by have := HWw2.out.size; simp; omega)))
  have HPqw3 : Hid (qw3.ownsRow w0.heap.size 5 1 (.slice Aqw3 4 cqw3) 4 ((fl 2 [813, 45]).map bv)) := Lib.hid (own_base ho (by have := HWw2.out.size; simp; omega))
  have HOqw3 : Hid (qw3.ownsRow w0.heap.size 5 1 (.slice Aw2 12 cw2) 12 ((fl 4 [101075792, 44, 0]).map bv)) := Lib.hid (own_below (World.ownsRow.alloc HOw2.out (.cells #[.int .u64 813, .int .u64 45] 43)) hb)
  clear ho hb
  go_wp2_with (at_builtin; refine wpList_append_list _ rfl (.tmp 39) (.tmp 41) 25 rfl w0.heap.size 5 i0 (.int .u8 0) 1 1 Try.underlying25 hi hz0 hz1 hz2 rfl (by decide) _ 12 _ rfl HOqw3.out _ Aqw3 4 cqw3 _ rfl (Lst.of_own HPqw3.out) oneCell_bytes (by unfold maxLen; omega) (by omega) HWqw3.out.size ?_)
  intro Aw3 cw3 w3 hown hgrow hat
  have HOw3 : Hid (w3.ownsRow w0.heap.size 5 1 (.slice Aw3 16 cw3) 16 ((fl 4 [101075792, 44, 0] ++ fl 2 [813, 45]).map bv)) := Lib.hid (by rw [List.map_append]; exact hown)
  have HWw3 : Hid (Below w0.heap.size w0 w3) := Lib.hid (HWqw3.out.grown hgrow HWqw3.out.size (fun g e => (HOqw3.out.lt g e).1))
  clear hown hgrow hat
  go_wp2_with fail
  refine (rputs_any 4 [0, 0] _ 2 2 _ _ (by omega) (by intro x hx; simp at hx; omega) (Lst.new (size := 1) w3 43 #[.int .u64 0, .int .u64 0] 2 rfl (fr := (0, 0)) rfl) (by omega)).mono ?_
  rintro e' qw4 ⟨Aqw4, cqw4, rfl, ho, hb⟩
  have HWqw4 : Hid (Below w0.heap.size w0 qw4) := Lib.hid ((HWw3.out.alloc HWw3.out.size (.cells #[.int .u64 0, .int .u64 0] 43)).trans (hb.mono (by have := HWw3.out.size; simp; omega)))
  have HPqw4 : Hid (qw4.ownsRow w0.heap.size 5 1 (.slice Aqw4 8 cqw4) 8 ((fl 4 [0, 0]).map bv)) := Lib.hid (own_base ho (by have := HWw3.out.size; simp; omega))
  have HOqw4 : Hid (qw4.ownsRow w0.heap.size 5 1 (.slice Aw3 16 cw3) 16 ((fl 4 [101075792, 44, 0] ++ fl 2 [813, 45]).map bv)) := Lib.hid (own_below (World.ownsRow.alloc HOw3.out (.cells #[.int .u64 0, .int .u64 0] 43)) hb)
  clear ho hb
  go_wp2_with (at_builtin; refine wpList_append_list _ rfl (.tmp 43) (.tmp 45) 25 rfl w0.heap.size 5 i0 (.int .u8 0) 1 1 Try.underlying25 hi hz0 hz1 hz2 rfl (by decide) _ 16 _ rfl HOqw4.out _ Aqw4 8 cqw4 _ rfl (Lst.of_own HPqw4.out) oneCell_bytes (by unfold maxLen; omega) (by omega) HWqw4.out.size ?_)
  intro Aw4 cw4 w4 hown hgrow hat
  have HOw4 : Hid (w4.ownsRow w0.heap.size 5 1 (.slice Aw4 24 cw4) 24 ((fl 4 [101075792, 44, 0] ++ fl 2 [813, 45] ++ fl 4 [0, 0]).map bv)) := Lib.hid (by rw [List.map_append]; exact hown)
  have HWw4 : Hid (Below w0.heap.size w0 w4) := Lib.hid (HWqw4.out.grown hgrow HWqw4.out.size (fun g e => (HOqw4.out.lt g e).1))
  clear hown hgrow hat
  go_wp2_with fail
  refine (rputs_any 8 [n, n, s, a] _ 4 4 _ _ (by omega) (by intro x hx; simp at hx; omega) (Lst.new (size := 1) w4 43 #[.int .u64 (n : Nat), .int .u64 (n : Nat), .int .u64 (s : Nat), .int .u64 (a : Nat)] 4 rfl (fr := (0, 0)) rfl) (by omega)).mono ?_
  rintro e' qw5 ⟨Aqw5, cqw5, rfl, ho, hb⟩
  have HWqw5 : Hid (Below w0.heap.size w0 qw5) := Lib.hid ((HWw4.out.alloc HWw4.out.size (.cells #[.int .u64 (n : Nat), .int .u64 (n : Nat), .int .u64 (s : Nat), .int .u64 (a : Nat)] 43)).trans (hb.mono (by have := HWw4.out.size; simp; omega)))
  have HPqw5 : Hid (qw5.ownsRow w0.heap.size 5 1 (.slice Aqw5 32 cqw5) 32 ((fl 8 [n, n, s, a]).map bv)) := Lib.hid (own_base ho (by have := HWw4.out.size; simp; omega))
  have HOqw5 : Hid (qw5.ownsRow w0.heap.size 5 1 (.slice Aw4 24 cw4) 24 ((fl 4 [101075792, 44, 0] ++ fl 2 [813, 45] ++ fl 4 [0, 0]).map bv)) := Lib.hid (own_below (World.ownsRow.alloc HOw4.out (.cells #[.int .u64 (n : Nat), .int .u64 (n : Nat), .int .u64 (s : Nat), .int .u64 (a : Nat)] 43)) hb)
  clear ho hb
  go_wp2_with (at_builtin; refine wpList_append_list _ rfl (.tmp 47) (.tmp 53) 25 rfl w0.heap.size 5 i0 (.int .u8 0) 1 1 Try.underlying25 hi hz0 hz1 hz2 rfl (by decide) _ 24 _ rfl HOqw5.out _ Aqw5 32 cqw5 _ rfl (Lst.of_own HPqw5.out) oneCell_bytes (by unfold maxLen; omega) (by omega) HWqw5.out.size ?_)
  intro Aw5 cw5 w5 hown hgrow hat
  have HOw5 : Hid (w5.ownsRow w0.heap.size 5 1 (.slice Aw5 56 cw5) 56 ((fl 4 [101075792, 44, 0] ++ fl 2 [813, 45] ++ fl 4 [0, 0] ++ fl 8 [n, n, s, a]).map bv)) := Lib.hid (by rw [List.map_append]; exact hown)
  have HWw5 : Hid (Below w0.heap.size w0 w5) := Lib.hid (HWqw5.out.grown hgrow HWqw5.out.size (fun g e => (HOqw5.out.lt g e).1))
  clear hown hgrow hat
  go_wp2_with fail
  refine (rputs_any 4 [117853008, 0] _ 2 2 _ _ (by omega) (by intro x hx; simp at hx; omega) (Lst.new (size := 1) w5 43 #[.int .u64 117853008, .int .u64 0] 2 rfl (fr := (0, 0)) rfl) (by omega)).mono ?_
  rintro e' qw6 ⟨Aqw6, cqw6, rfl, ho, hb⟩
  have HWqw6 : Hid (Below w0.heap.size w0 qw6) := Lib.hid ((HWw5.out.alloc HWw5.out.size (.cells #[.int .u64 117853008, .int .u64 0] 43)).trans (hb.mono (by have := HWw5.out.size; simp; omega)))
  have HPqw6 : Hid (qw6.ownsRow w0.heap.size 5 1 (.slice Aqw6 8 cqw6) 8 ((fl 4 [117853008, 0]).map bv)) := Lib.hid (own_base ho (by have := HWw5.out.size; simp; omega))
  have HOqw6 : Hid (qw6.ownsRow w0.heap.size 5 1 (.slice Aw5 56 cw5) 56 ((fl 4 [101075792, 44, 0] ++ fl 2 [813, 45] ++ fl 4 [0, 0] ++ fl 8 [n, n, s, a]).map bv)) := Lib.hid (own_below (World.ownsRow.alloc HOw5.out (.cells #[.int .u64 117853008, .int .u64 0] 43)) hb)
  clear ho hb
  go_wp2_with (at_builtin; refine wpList_append_list _ rfl (.tmp 55) (.tmp 57) 25 rfl w0.heap.size 5 i0 (.int .u8 0) 1 1 Try.underlying25 hi hz0 hz1 hz2 rfl (by decide) _ 56 _ rfl HOqw6.out _ Aqw6 8 cqw6 _ rfl (Lst.of_own HPqw6.out) oneCell_bytes (by unfold maxLen; omega) (by omega) HWqw6.out.size ?_)
  intro Aw6 cw6 w6 hown hgrow hat
  have HOw6 : Hid (w6.ownsRow w0.heap.size 5 1 (.slice Aw6 64 cw6) 64 ((fl 4 [101075792, 44, 0] ++ fl 2 [813, 45] ++ fl 4 [0, 0] ++ fl 8 [n, n, s, a] ++ fl 4 [117853008, 0]).map bv)) := Lib.hid (by rw [List.map_append]; exact hown)
  have HWw6 : Hid (Below w0.heap.size w0 w6) := Lib.hid (HWqw6.out.grown hgrow HWqw6.out.size (fun g e => (HOqw6.out.lt g e).1))
  clear hown hgrow hat
  obtain ⟨z, hz⟩ : ∃ z, a + s = z := ⟨_, rfl⟩
  have ez : (a : Int) + (s : Int) = (z : Int) := by omega
  have hzb : z < 8589934592 := by omega
  have HZ := Lib.hid hz
  clear hz
  go_wp2_with fail
  refine (rputs_any 8 [z] _ 1 1 _ _ (by omega) (by intro x hx; simp at hx; omega) (Lst.new (size := 1) w6 43 #[.int .u64 (z : Nat)] 1 rfl (fr := (0, 0)) rfl) (by omega)).mono ?_
  rintro e' qw7 ⟨Aqw7, cqw7, rfl, ho, hb⟩
  have HWqw7 : Hid (Below w0.heap.size w0 qw7) := Lib.hid ((HWw6.out.alloc HWw6.out.size (.cells #[.int .u64 (z : Nat)] 43)).trans (hb.mono (by have := HWw6.out.size; simp; omega)))
  have HPqw7 : Hid (qw7.ownsRow w0.heap.size 5 1 (.slice Aqw7 8 cqw7) 8 ((fl 8 [z]).map bv)) := Lib.hid (own_base ho (by have := HWw6.out.size; simp; omega))
  have HOqw7 : Hid (qw7.ownsRow w0.heap.size 5 1 (.slice Aw6 64 cw6) 64 ((fl 4 [101075792, 44, 0] ++ fl 2 [813, 45] ++ fl 4 [0, 0] ++ fl 8 [n, n, s, a] ++ fl 4 [117853008, 0]).map bv)) := Lib.hid (own_below (World.ownsRow.alloc HOw6.out (.cells #[.int .u64 (z : Nat)] 43)) hb)
  clear ho hb
  go_wp2_with (at_builtin; refine wpList_append_list _ rfl (.tmp 59) (.tmp 64) 25 rfl w0.heap.size 5 i0 (.int .u8 0) 1 1 Try.underlying25 hi hz0 hz1 hz2 rfl (by decide) _ 64 _ rfl HOqw7.out _ Aqw7 8 cqw7 _ rfl (Lst.of_own HPqw7.out) oneCell_bytes (by unfold maxLen; omega) (by omega) HWqw7.out.size ?_)
  intro Aw7 cw7 w7 hown hgrow hat
  have HOw7 : Hid (w7.ownsRow w0.heap.size 5 1 (.slice Aw7 72 cw7) 72 ((fl 4 [101075792, 44, 0] ++ fl 2 [813, 45] ++ fl 4 [0, 0] ++ fl 8 [n, n, s, a] ++ fl 4 [117853008, 0] ++ fl 8 [z]).map bv)) := Lib.hid (by rw [List.map_append]; exact hown)
  have HWw7 : Hid (Below w0.heap.size w0 w7) := Lib.hid (HWqw7.out.grown hgrow HWqw7.out.size (fun g e => (HOqw7.out.lt g e).1))
  clear hown hgrow hat
  go_wp2_with fail
  refine (rputs_any 4 [1, 101010256, 0, 4294967295, 4294967295, 4294967295] _ 6 6 _ _ (by omega) (by intro x hx; simp at hx; omega) (Lst.new (size := 1) w7 43 #[.int .u64 1, .int .u64 101010256, .int .u64 0, .int .u64 4294967295, .int .u64 4294967295, .int .u64 4294967295] 6 rfl (fr := (0, 0)) rfl) (by omega)).mono ?_
  rintro e' qw8 ⟨Aqw8, cqw8, rfl, ho, hb⟩
  have HWqw8 : Hid (Below w0.heap.size w0 qw8) := Lib.hid ((HWw7.out.alloc HWw7.out.size (.cells #[.int .u64 1, .int .u64 101010256, .int .u64 0, .int .u64 4294967295, .int .u64 4294967295, .int .u64 4294967295] 43)).trans (hb.mono (by have := HWw7.out.size; simp; omega)))
  have HPqw8 : Hid (qw8.ownsRow w0.heap.size 5 1 (.slice Aqw8 24 cqw8) 24 ((fl 4 [1, 101010256, 0, 4294967295, 4294967295, 4294967295]).map bv)) := Lib.hid (own_base ho (by have := HWw7.out.size; simp; omega))
  have HOqw8 : Hid (qw8.ownsRow w0.heap.size 5 1 (.slice Aw7 72 cw7) 72 ((fl 4 [101075792, 44, 0] ++ fl 2 [813, 45] ++ fl 4 [0, 0] ++ fl 8 [n, n, s, a] ++ fl 4 [117853008, 0] ++ fl 8 [z]).map bv)) := Lib.hid (own_below (World.ownsRow.alloc HOw7.out (.cells #[.int .u64 1, .int .u64 101010256, .int .u64 0, .int .u64 4294967295, .int .u64 4294967295, .int .u64 4294967295] 43)) hb)
  clear ho hb
  go_wp2_with (at_builtin; refine wpList_append_list _ rfl (.tmp 66) (.tmp 68) 25 rfl w0.heap.size 5 i0 (.int .u8 0) 1 1 Try.underlying25 hi hz0 hz1 hz2 rfl (by decide) _ 72 _ rfl HOqw8.out _ Aqw8 24 cqw8 _ rfl (Lst.of_own HPqw8.out) oneCell_bytes (by unfold maxLen; omega) (by omega) HWqw8.out.size ?_)
  intro Aw8 cw8 w8 hown hgrow hat
  have HOw8 : Hid (w8.ownsRow w0.heap.size 5 1 (.slice Aw8 96 cw8) 96 ((fl 4 [101075792, 44, 0] ++ fl 2 [813, 45] ++ fl 4 [0, 0] ++ fl 8 [n, n, s, a] ++ fl 4 [117853008, 0] ++ fl 8 [z] ++ fl 4 [1, 101010256, 0, 4294967295, 4294967295, 4294967295]).map bv)) := Lib.hid (by rw [List.map_append]; exact hown)
  have HWw8 : Hid (Below w0.heap.size w0 w8) := Lib.hid (HWqw8.out.grown hgrow HWqw8.out.size (fun g e => (HOqw8.out.lt g e).1))
  clear hown hgrow hat
  go_wp2_with (at_builtin; refine wpList_append_list _ rfl (.tmp 70) (.tmp 71) 25 rfl w0.heap.size 5 i0 (.int .u8 0) 1 1 Try.underlying25 hi hz0 hz1 hz2 rfl (by decide) _ 96 _ rfl (World.ownsRow.alloc HOw8.out _) _ (some ⟨w8.heap.size, 0, none⟩) 2 2 [.int .u8 0, .int .u8 0] rfl (Lst.new (size := 1) w8 5 #[.int .u8 0, .int .u8 0] 2 rfl rfl) (by simp [Value.oneCell']) (by unfold maxLen; omega) (by omega) (by have := HWw8.out.size; simp; omega) ?_)
  intro Aw9 cw9 w9 hown hgrow hat
  have HOw9 : Hid (w9.ownsRow w0.heap.size 5 1 (.slice Aw9 98 cw9) 98 ((fl 4 [101075792, 44, 0] ++ fl 2 [813, 45] ++ fl 4 [0, 0] ++ fl 8 [n, n, s, a] ++ fl 4 [117853008, 0] ++ fl 8 [z] ++ fl 4 [1, 101010256, 0, 4294967295, 4294967295, 4294967295] ++ [0, 0]).map bv)) := Lib.hid (by rw [List.map_append]; exact hown)
  have HWw9 : Hid (Below w0.heap.size w0 w9) := Lib.hid ((HWw8.out.alloc HWw8.out.size (.cells #[.int .u8 0, .int .u8 0] 5)).grown hgrow (by have := HWw8.out.size; simp; omega) (fun g e => (HOw8.out.lt g e).1))
  clear hown hgrow hat
  go_wp2
  go_ret
  refine ⟨Aw9, cw9, rfl, ?_, HW0.out.trans (HWw9.out.mono HW0.out.size)⟩
  have := own_base HOw9.out HW0.out.size
  rw [← HZ.out] at this
  exact this
end Go.Proofs.Ytgjkkapopjpohaa
