/- FinishBack. -/
import Derived.Test.YtgjkkapopjpohaaG10
namespace Go.Proofs.Ytgjkkapopjpohaa
open Go.RowKit

theorem own_none (w : World) (e : TypeId) (sz : Nat) {B : Nat} (hB : B ≤ w.heap.size) : (w.alloc (.cells #[] e)).ownsRow B e sz (.slice (some ⟨w.heap.size, 0, none⟩) 0 0) 0 [] :=
  ⟨by simp, .inr ⟨w.heap.size, 0, #[], rfl, hB, heap_alloc_new w _, Nat.le_refl _, by unfold maxLen; omega, by simp, by simp⟩⟩
theorem own_none' (w : World) (o : Obj) (e : TypeId) (sz : Nat) : ((w.alloc o).alloc (.cells #[] e)).ownsRow (w.heap.size + 1) e sz (.slice (some ⟨w.heap.size + 1, 0, none⟩) 0 0) 0 [] := by
  have := own_none (w.alloc o) e sz (Nat.le_refl _)
  simpa using this
theorem eq_tl (x y z : Int) (b : Bool) (w : World) : (Op.equalIn 10000 23 (tl x y z b) (tl x y z b)).run Try.prog w = .ok true w := by
  simp [go_sem, tl]
theorem enc_slim (n s a : Nat) : enc n s a false = encT n s a := by simp [enc]
theorem enc_wide (n s a : Nat) : enc n s a true = encW n s a ++ encT 65535 4294967295 4294967295 := by simp [enc]
theorem fin_slim (ah : List UInt8) (n s a l : Nat) (h : ah.length = l) : (ah ++ enc n s a false).drop (l + 22 - 22) = cat (cT n s a) := by
  rw [enc_slim, Nat.add_sub_cancel, ← h, List.drop_left, encT_cat]
theorem encW_len (n s a : Nat) : (encW n s a).length = 76 := by rw [encW_cat, cat_len]; rfl
theorem fin_drop (ah : List UInt8) (n s a l : Nat) (h : ah.length = l) : (ah ++ enc n s a true).drop (l + 98 - 22) = cat (cT 65535 4294967295 4294967295) := by
  rw [enc_wide, ← List.append_assoc, List.drop_left' (by rw [List.length_append, encW_len, h]; omega), encT_cat]
theorem fin_mid (ah : List UInt8) (n s a l : Nat) (h : ah.length = l) : ((ah ++ enc n s a true).take (l + 98 - 22)).drop (l + 98 - 22 - 76) = cat (cW n s a) := by
  rw [enc_wide, ← List.append_assoc, List.take_left' (by rw [List.length_append, encW_len, h]; omega), List.drop_left' (by omega), encW_cat]
theorem encT_head (u x y : Nat) : ∃ r, encT u x y = 80 :: (75 :: 5 :: 6 :: 0 :: r) ∧ r.length = 17 := by
  have h4 : leB 101010256 4 = [80, 75, 5, 6] := by decide
  have h2 : leB 0 2 = [0, 0] := by decide
  have hl : (encT u x y).length = 22 := by rw [encT_cat, cat_len]; rfl
  unfold encT fl at *
  simp only [List.flatMap_cons, List.flatMap_nil, h4, h2, List.cons_append, List.nil_append, List.append_nil, List.append_assoc] at *
  exact ⟨_, rfl, by simp only [List.length_cons] at hl ⊢; omega⟩
theorem none_num (P : List UInt8) (u x y : Nat) (cb : UInt8) (k : Nat) (hk : P.length + 1 = k) : num (((((P ++ encT u x y) ++ [cb]).drop k).drop 0).take 4) ≠ 101010256 := by
  obtain ⟨r, hr, _⟩ := encT_head u x y
  rw [hr, show (P ++ (80 :: (75 :: 5 :: 6 :: 0 :: r))) ++ [cb] = (P ++ [80]) ++ (75 :: 5 :: 6 :: 0 :: (r ++ [cb])) by simp, List.drop_left' (by simp; omega)]
  simp [num]
theorem fin_none (ah : List UInt8) (n s a l : Nat) (wd : Bool) (cb : UInt8) (M : Nat) (h : ah.length = l) (hM : l + (if wd then 98 else 22) = M) : num (((((ah ++ enc n s a wd) ++ [cb]).drop (M + 1 - 22)).drop 0).take 4) ≠ 101010256 := by
  cases wd
  · rw [enc_slim]
    exact none_num ah n s a cb _ (by simp at hM; omega)
  · rw [enc_wide, ← List.append_assoc]
    exact none_num _ 65535 4294967295 4294967295 cb _ (by rw [List.length_append, encW_len]; simp at hM; omega)
set_option maxRecDepth 100000 in
set_option maxHeartbeats 4000000 in
theorem back_slim (n s a : Nat) (Aa : Option Addr) (l ca : Nat) (ah : List UInt8) (cb : UInt8) (cc : Nat) (W : World) (hn : n ≤ 1000) (hs : s < 4294967295) (ha : a < 4294967295) (hA : Bs W (fun b => b < W.heap.size) Aa l ah) (hcb : cb.toNat = cc) : Calls Try.prog 5 #[.agg #[.int .i64 (n : Nat), .int .i64 (s : Nat), .int .i64 (a : Nat), .bool false], .slice Aa l ca, .int .u8 (cc : Nat)] W fun e w' => e = .returned (.bool true) ∧ Below W.heap.size W w' := by
  obtain ⟨i0, hi, hz0, hz1, hz2⟩ : ∃ i, Try.prog.info? 5 = some i ∧ i.zero = some (.int .u8 0) ∧ i.size = 1 ∧ i.bytes = 1 := by
    have h := info5
    cases hi : Try.prog.info? 5 with
    | none => rw [hi] at h; cases h
    | some i => rw [hi] at h; injection h with h; injection h with h1 h2; injection h2 with h2 h3; exact ⟨i, rfl, h1, h2, h3⟩
  have HE := Lib.hid (fun w => encode_slim n s a w hn hs ha)
  have HA := Lib.hid hA
  have HL := Lib.hid hA.len
  have HCB := Lib.hid hcb
  have Q := eq_tl (n : Nat) (s : Nat) (a : Nat) false
  clear hA hcb
  go_enter Try.func5, Try.ntmps5
  go_wp2_with fail
  obtain ⟨w0, hw0⟩ : ∃ w0, W.alloc (.cells #[.int .i64 (n : Nat), .int .i64 (s : Nat), .int .i64 (a : Nat), .bool false] 23) = w0 := ⟨_, rfl⟩
  rw [hw0]
  have HW0 : Hid (Below W.heap.size W w0) := Lib.hid (hw0 ▸ (Below.refl _ _).alloc (Nat.le_refl _) _)
  have HR : Hid (Whole w0 W.heap.size 23 #[.int .i64 (n : Nat), .int .i64 (s : Nat), .int .i64 (a : Nat), .bool false]) := Lib.hid (hw0 ▸ Whole.new W 23 _ rfl)
  clear hw0
  refine (awake_any w0).mono ?_
  rintro e w1 ⟨rfl, hb1⟩
  have HB1 : Hid (Below W.heap.size W w1) := Lib.hid (HW0.out.trans (hb1.mono HW0.out.size))
  have HR := Lib.hid (HR.out.below' hb1)
  have r0 := HR.out.cell 0
  have r1 := HR.out.cell 1
  have r2 := HR.out.cell 2
  have r3 := HR.out.cell 3
  simp at r0 r1 r2 r3
  clear hb1
  go_wp2_with fail
  refine (HE.out w1).mono ?_
  rintro e w2 ⟨A1, c1, rfl, hO, hb2⟩
  have HB2 := Lib.hid (HB1.out.trans (hb2.mono HB1.out.size))
  have HO := Lib.hid hO
  have HR := Lib.hid (HR.out.below' hb2)
  clear hb2 hO r0 r1 r2 r3
  by_cases h3 : 300 < l
  · have d1 : decide (300 < l) = true := by simpa using h3
    have d1' : decide ((300 : Int) < (l : Int)) = true := by simp; omega
    go_wp2
    go_ret
    exact ⟨rfl, HB2.out⟩
  have d1 : decide (300 < l) = false := by simpa using h3
  have d1' : decide ((300 : Int) < (l : Int)) = false := by simp; omega
  have hl3 : l ≤ 300 := by omega
  clear h3
  go_wp2_with (at_builtin; refine wpList_append_list _ rfl (.tmp 30) (.tmp 31) 25 rfl w2.heap.size 5 i0 (.int .u8 0) 1 1 Try.underlying25 hi hz0 hz1 hz2 rfl (by decide) (.slice (some ⟨w2.heap.size, 0, none⟩) 0 0) 0 [] rfl (own_none w2 5 1 (Nat.le_refl _)) _ Aa l ca _ rfl (Bs.alloc (HA.out.below HB2.out) _) oneCell_bytes (by unfold maxLen; omega) (by omega) (by simp) ?_)
  intro A3 c3 x3 hown3 hgrow3 hat3
  have HB3 := Lib.hid (((Below.refl w2.heap.size w2).alloc (Nat.le_refl _) (.cells #[] 5)).grown hgrow3 (by simp) (fun g e => by simp [Value.ownBlock] at e; omega))
  have HO3 : Hid (x3.ownsRow w2.heap.size 5 1 (.slice A3 l c3) l (ah.map bv)) := Lib.hid (by simpa using hown3)
  clear hown3 hgrow3 hat3
  go_wp2_with (at_builtin; refine wpList_append_list _ rfl (.tmp 32) (.tmp 33) 25 rfl w2.heap.size 5 i0 (.int .u8 0) 1 1 Try.underlying25 hi hz0 hz1 hz2 rfl (by decide) (.slice A3 l c3) l _ rfl HO3.out _ A1 22 c1 _ rfl (HO.out.below HB3.out) oneCell_bytes (by unfold maxLen; omega) (by omega) HB3.out.size ?_)
  intro A4 c4 x4 hown4 hgrow4 hat4
  have HB4 := Lib.hid (HB3.out.grown hgrow4 HB3.out.size (fun g e => (World.ownsRow.lt HO3.out g e).1))
  have HAL : Hid (Bs x4 (fun b => w2.heap.size ≤ b) A4 (l + 22) (ah ++ enc n s a false)) := Lib.hid (Bs.of_own (by rw [List.map_append]; exact hown4))
  have HC4 := Lib.hid (own_cap hown4)
  have HR := Lib.hid (HR.out.below' HB4.out)
  have HB4 := Lib.hid (HB2.out.trans (HB4.out.mono HB2.out.size))
  clear hown4 hgrow4 hat4 HO3 HB3 HO
  have HP := Lib.hid (parse_slim A4 (l + 22) c4 n s a x4 (by omega) (by omega) (fun w' hb => read_slim A4 (l + 22) c4 (ah ++ enc n s a false) _ w' n s a (HAL.out.below hb) (by omega) (by omega) HC4.out.1 (fin_slim ah n s a l HL.out) hn hs ha))
  rw [Nat.add_sub_cancel] at HP
  go_wp2_with fail
  refine HP.out.mono ?_
  rintro e w5 ⟨rfl, hb5⟩
  have HAL := Lib.hid (HAL.out.below hb5)
  have HR := Lib.hid (HR.out.below' hb5)
  have HB5 := Lib.hid (HB4.out.trans (hb5.mono HB4.out.size))
  obtain ⟨M, hM⟩ : ∃ M, l + 22 = M := ⟨_, rfl⟩
  have hMb : M ≤ 400 := by omega
  have HMM := Lib.hid hM
  rw [hM] at HAL HC4
  have HX : Hid (Whole (w5.alloc (.cells #[.int .i64 (n : Nat), .int .i64 (s : Nat), .int .i64 (a : Nat), .bool false] 23)) w5.heap.size 23 #[.int .i64 (n : Nat), .int .i64 (s : Nat), .int .i64 (a : Nat), .bool false]) := Lib.hid (Whole.new w5 23 _ rfl)
  have HAW := Lib.hid (Bs.alloc (Bs.alloc HAL.out (.cells #[.int .i64 (n : Nat), .int .i64 (s : Nat), .int .i64 (a : Nat), .bool false] 23)) (.cells #[] 5))
  have HR := Lib.hid (HR.out.alloc (.cells #[.int .i64 (n : Nat), .int .i64 (s : Nat), .int .i64 (a : Nat), .bool false] 23))
  have HB6 := Lib.hid (HB5.out.alloc HB5.out.size (.cells #[.int .i64 (n : Nat), .int .i64 (s : Nat), .int .i64 (a : Nat), .bool false] 23))
  have hW5 := HB5.out.size
  clear hb5 HP HB5 HB4
  go_wp2_with (at_builtin; refine wpList_append_list _ rfl (.tmp 42) (.tmp 43) 25 rfl (w5.heap.size + 1) 5 i0 (.int .u8 0) 1 1 Try.underlying25 hi hz0 hz1 hz2 rfl (by decide) (.slice (some ⟨w5.heap.size + 1, 0, none⟩) 0 0) 0 [] rfl (own_none' w5 _ 5 1) _ A4 M c4 _ rfl HAW.out oneCell_bytes (by unfold maxLen; omega) (by omega) (by simp) ?_)
  intro A7 c7 x7 hown7 hgrow7 hat7
  have HB7 := Lib.hid (((Below.refl (w5.heap.size + 1) (w5.alloc (.cells #[.int .i64 (n : Nat), .int .i64 (s : Nat), .int .i64 (a : Nat), .bool false] 23))).alloc (by simp) (.cells #[] 5)).grown hgrow7 (by simp) (fun g e => by simp [Value.ownBlock] at e; omega))
  have HO7 : Hid (x7.ownsRow (w5.heap.size + 1) 5 1 (.slice A7 M c7) M ((ah ++ enc n s a false).map bv)) := Lib.hid (by simpa using hown7)
  have hz7 : w5.heap.size + 1 ≤ x7.heap.size := by have := HB7.out.size; simpa using this
  clear hown7 hgrow7 hat7 HAW HAL
  go_wp2_with (at_builtin; refine wpList_append_list _ rfl (.tmp 44) (.tmp 46) 25 rfl (w5.heap.size + 1) 5 i0 (.int .u8 0) 1 1 Try.underlying25 hi hz0 hz1 hz2 rfl (by decide) (.slice A7 M c7) M _ rfl (World.ownsRow.alloc HO7.out _) _ (some ⟨x7.heap.size, 0, none⟩) 1 1 [.int .u8 (cc : Nat)] rfl (Lst.new (size := 1) x7 5 #[.int .u8 (cc : Nat)] 1 rfl rfl) (by simp [Value.oneCell']) (by unfold maxLen; omega) (by omega) (by simp; omega) ?_)
  intro A8 c8 x8 hown8 hgrow8 hat8
  have hb8 : Below (w5.heap.size + 1) x7 x8 := ((Below.refl (w5.heap.size + 1) x7).alloc hz7 (.cells #[.int .u8 (cc : Nat)] 5)).grown hgrow8 (by simp; omega) (fun g e => (World.ownsRow.lt HO7.out g e).1)
  have HB8 := Lib.hid (HB7.out.trans hb8)
  have HC8 := Lib.hid (own_cap hown8)
  have HAL : Hid (Bs x8 (fun b => w5.heap.size + 1 ≤ b) A8 (M + 1) ((ah ++ enc n s a false) ++ [cb])) := Lib.hid (Bs.of_own (by rw [List.map_append, List.map_singleton, show bv cb = .int .u8 (cc : Nat) by rw [← HCB.out], List.map_append, List.append_assoc]; exact hown8))
  have HR := Lib.hid (HR.out.below HB8.out (by omega))
  have HX := Lib.hid (HX.out.below HB8.out (by omega))
  have HB8 := Lib.hid (HB6.out.trans (HB8.out.mono (by omega)))
  have HN := Lib.hid (parse_none A8 (M + 1) c8 30 x8 rfl (fun w' hb => read_none A8 (M + 1) c8 _ _ w' (HAL.out.below hb) (by omega) (by have := HMM.out; omega) HC8.out.1 HC8.out.2 _ rfl (fin_none ah n s a l false cb M HL.out HMM.out)))
  clear hown8 hgrow8 hat8 HB7 HO7 HB6 hb8
  go_wp2_with fail
  refine HN.out.mono ?_
  rintro e w9 ⟨rfl, hb9⟩
  have HR := Lib.hid (HR.out.below' hb9)
  have HX := Lib.hid (HX.out.below' hb9)
  have HB9 := Lib.hid (HB8.out.trans (hb9.mono HB8.out.size))
  have r0 := HR.out.cell 0
  have r1 := HR.out.cell 1
  have r2 := HR.out.cell 2
  have r3 := HR.out.cell 3
  have q0 := HX.out.cell 0
  have q1 := HX.out.cell 1
  have q2 := HX.out.cell 2
  have q3 := HX.out.cell 3
  have hlR := HR.out.lt
  have hlX := HX.out.lt
  simp at r0 r1 r2 r3 q0 q1 q2 q3
  clear hb9 HN
  go_wp2
  go_ret
  exact ⟨rfl, HB9.out.alloc HB9.out.size _⟩
set_option maxRecDepth 100000 in
set_option maxHeartbeats 4000000 in
theorem back_wide (n s a : Nat) (Aa : Option Addr) (l ca : Nat) (ah : List UInt8) (cb : UInt8) (cc : Nat) (W : World) (hn : n ≤ 1000) (hs : s < 4294967295) (ha : a < 4294967295) (hA : Bs W (fun b => b < W.heap.size) Aa l ah) (hcb : cb.toNat = cc) : Calls Try.prog 5 #[.agg #[.int .i64 (n : Nat), .int .i64 (s : Nat), .int .i64 (a : Nat), .bool true], .slice Aa l ca, .int .u8 (cc : Nat)] W fun e w' => e = .returned (.bool true) ∧ Below W.heap.size W w' := by
  obtain ⟨i0, hi, hz0, hz1, hz2⟩ : ∃ i, Try.prog.info? 5 = some i ∧ i.zero = some (.int .u8 0) ∧ i.size = 1 ∧ i.bytes = 1 := by
    have h := info5
    cases hi : Try.prog.info? 5 with
    | none => rw [hi] at h; cases h
    | some i => rw [hi] at h; injection h with h; injection h with h1 h2; injection h2 with h2 h3; exact ⟨i, rfl, h1, h2, h3⟩
  have HE := Lib.hid (fun w => encode_wide n s a w hn hs ha)
  have HA := Lib.hid hA
  have HL := Lib.hid hA.len
  have HCB := Lib.hid hcb
  have Q := eq_tl (n : Nat) (s : Nat) (a : Nat) true
  clear hA hcb
  go_enter Try.func5, Try.ntmps5
  go_wp2_with fail
  obtain ⟨w0, hw0⟩ : ∃ w0, W.alloc (.cells #[.int .i64 (n : Nat), .int .i64 (s : Nat), .int .i64 (a : Nat), .bool true] 23) = w0 := ⟨_, rfl⟩
  rw [hw0]
  have HW0 : Hid (Below W.heap.size W w0) := Lib.hid (hw0 ▸ (Below.refl _ _).alloc (Nat.le_refl _) _)
  have HR : Hid (Whole w0 W.heap.size 23 #[.int .i64 (n : Nat), .int .i64 (s : Nat), .int .i64 (a : Nat), .bool true]) := Lib.hid (hw0 ▸ Whole.new W 23 _ rfl)
  clear hw0
  refine (awake_any w0).mono ?_
  rintro e w1 ⟨rfl, hb1⟩
  have HB1 : Hid (Below W.heap.size W w1) := Lib.hid (HW0.out.trans (hb1.mono HW0.out.size))
  have HR := Lib.hid (HR.out.below' hb1)
  have r0 := HR.out.cell 0
  have r1 := HR.out.cell 1
  have r2 := HR.out.cell 2
  have r3 := HR.out.cell 3
  simp at r0 r1 r2 r3
  clear hb1
  go_wp2_with fail
  refine (HE.out w1).mono ?_
  rintro e w2 ⟨A1, c1, rfl, hO, hb2⟩
  have HB2 := Lib.hid (HB1.out.trans (hb2.mono HB1.out.size))
  have HO := Lib.hid hO
  have HR := Lib.hid (HR.out.below' hb2)
  clear hb2 hO r0 r1 r2 r3
  by_cases h3 : 300 < l
  · have d1 : decide (300 < l) = true := by simpa using h3
    have d1' : decide ((300 : Int) < (l : Int)) = true := by simp; omega
    go_wp2
    go_ret
    exact ⟨rfl, HB2.out⟩
  have d1 : decide (300 < l) = false := by simpa using h3
  have d1' : decide ((300 : Int) < (l : Int)) = false := by simp; omega
  have hl3 : l ≤ 300 := by omega
  clear h3
  go_wp2_with (at_builtin; refine wpList_append_list _ rfl (.tmp 30) (.tmp 31) 25 rfl w2.heap.size 5 i0 (.int .u8 0) 1 1 Try.underlying25 hi hz0 hz1 hz2 rfl (by decide) (.slice (some ⟨w2.heap.size, 0, none⟩) 0 0) 0 [] rfl (own_none w2 5 1 (Nat.le_refl _)) _ Aa l ca _ rfl (Bs.alloc (HA.out.below HB2.out) _) oneCell_bytes (by unfold maxLen; omega) (by omega) (by simp) ?_)
  intro A3 c3 x3 hown3 hgrow3 hat3
  have HB3 := Lib.hid (((Below.refl w2.heap.size w2).alloc (Nat.le_refl _) (.cells #[] 5)).grown hgrow3 (by simp) (fun g e => by simp [Value.ownBlock] at e; omega))
  have HO3 : Hid (x3.ownsRow w2.heap.size 5 1 (.slice A3 l c3) l (ah.map bv)) := Lib.hid (by simpa using hown3)
  clear hown3 hgrow3 hat3
  go_wp2_with (at_builtin; refine wpList_append_list _ rfl (.tmp 32) (.tmp 33) 25 rfl w2.heap.size 5 i0 (.int .u8 0) 1 1 Try.underlying25 hi hz0 hz1 hz2 rfl (by decide) (.slice A3 l c3) l _ rfl HO3.out _ A1 98 c1 _ rfl (HO.out.below HB3.out) oneCell_bytes (by unfold maxLen; omega) (by omega) HB3.out.size ?_)
  intro A4 c4 x4 hown4 hgrow4 hat4
  have HB4 := Lib.hid (HB3.out.grown hgrow4 HB3.out.size (fun g e => (World.ownsRow.lt HO3.out g e).1))
  have HAL : Hid (Bs x4 (fun b => w2.heap.size ≤ b) A4 (l + 98) (ah ++ enc n s a true)) := Lib.hid (Bs.of_own (by rw [List.map_append]; exact hown4))
  have HC4 := Lib.hid (own_cap hown4)
  have HR := Lib.hid (HR.out.below' HB4.out)
  have HB4 := Lib.hid (HB2.out.trans (HB4.out.mono HB2.out.size))
  clear hown4 hgrow4 hat4 HO3 HB3 HO
  have HP := Lib.hid (parse_wide A4 (l + 98) c4 n s a x4 (by omega) (by omega) (fun w' hb => read_wide A4 (l + 98) c4 (ah ++ enc n s a true) _ w' 65535 4294967295 4294967295 n s a (HAL.out.below hb) (by omega) (by omega) HC4.out.1 HC4.out.2 (by omega) (fin_drop ah n s a l HL.out) (fin_mid ah n s a l HL.out) (by omega) (by omega) (by omega) rfl rfl rfl hn hs ha))
  rw [Nat.add_sub_cancel] at HP
  go_wp2_with fail
  refine HP.out.mono ?_
  rintro e w5 ⟨rfl, hb5⟩
  have HAL := Lib.hid (HAL.out.below hb5)
  have HR := Lib.hid (HR.out.below' hb5)
  have HB5 := Lib.hid (HB4.out.trans (hb5.mono HB4.out.size))
  obtain ⟨M, hM⟩ : ∃ M, l + 98 = M := ⟨_, rfl⟩
  have hMb : M ≤ 400 := by omega
  have HMM := Lib.hid hM
  rw [hM] at HAL HC4
  have HX : Hid (Whole (w5.alloc (.cells #[.int .i64 (n : Nat), .int .i64 (s : Nat), .int .i64 (a : Nat), .bool true] 23)) w5.heap.size 23 #[.int .i64 (n : Nat), .int .i64 (s : Nat), .int .i64 (a : Nat), .bool true]) := Lib.hid (Whole.new w5 23 _ rfl)
  have HAW := Lib.hid (Bs.alloc (Bs.alloc HAL.out (.cells #[.int .i64 (n : Nat), .int .i64 (s : Nat), .int .i64 (a : Nat), .bool true] 23)) (.cells #[] 5))
  have HR := Lib.hid (HR.out.alloc (.cells #[.int .i64 (n : Nat), .int .i64 (s : Nat), .int .i64 (a : Nat), .bool true] 23))
  have HB6 := Lib.hid (HB5.out.alloc HB5.out.size (.cells #[.int .i64 (n : Nat), .int .i64 (s : Nat), .int .i64 (a : Nat), .bool true] 23))
  have hW5 := HB5.out.size
  clear hb5 HP HB5 HB4
  go_wp2_with (at_builtin; refine wpList_append_list _ rfl (.tmp 42) (.tmp 43) 25 rfl (w5.heap.size + 1) 5 i0 (.int .u8 0) 1 1 Try.underlying25 hi hz0 hz1 hz2 rfl (by decide) (.slice (some ⟨w5.heap.size + 1, 0, none⟩) 0 0) 0 [] rfl (own_none' w5 _ 5 1) _ A4 M c4 _ rfl HAW.out oneCell_bytes (by unfold maxLen; omega) (by omega) (by simp) ?_)
  intro A7 c7 x7 hown7 hgrow7 hat7
  have HB7 := Lib.hid (((Below.refl (w5.heap.size + 1) (w5.alloc (.cells #[.int .i64 (n : Nat), .int .i64 (s : Nat), .int .i64 (a : Nat), .bool true] 23))).alloc (by simp) (.cells #[] 5)).grown hgrow7 (by simp) (fun g e => by simp [Value.ownBlock] at e; omega))
  have HO7 : Hid (x7.ownsRow (w5.heap.size + 1) 5 1 (.slice A7 M c7) M ((ah ++ enc n s a true).map bv)) := Lib.hid (by simpa using hown7)
  have hz7 : w5.heap.size + 1 ≤ x7.heap.size := by have := HB7.out.size; simpa using this
  clear hown7 hgrow7 hat7 HAW HAL
  go_wp2_with (at_builtin; refine wpList_append_list _ rfl (.tmp 44) (.tmp 46) 25 rfl (w5.heap.size + 1) 5 i0 (.int .u8 0) 1 1 Try.underlying25 hi hz0 hz1 hz2 rfl (by decide) (.slice A7 M c7) M _ rfl (World.ownsRow.alloc HO7.out _) _ (some ⟨x7.heap.size, 0, none⟩) 1 1 [.int .u8 (cc : Nat)] rfl (Lst.new (size := 1) x7 5 #[.int .u8 (cc : Nat)] 1 rfl rfl) (by simp [Value.oneCell']) (by unfold maxLen; omega) (by omega) (by simp; omega) ?_)
  intro A8 c8 x8 hown8 hgrow8 hat8
  have hb8 : Below (w5.heap.size + 1) x7 x8 := ((Below.refl (w5.heap.size + 1) x7).alloc hz7 (.cells #[.int .u8 (cc : Nat)] 5)).grown hgrow8 (by simp; omega) (fun g e => (World.ownsRow.lt HO7.out g e).1)
  have HB8 := Lib.hid (HB7.out.trans hb8)
  have HC8 := Lib.hid (own_cap hown8)
  have HAL : Hid (Bs x8 (fun b => w5.heap.size + 1 ≤ b) A8 (M + 1) ((ah ++ enc n s a true) ++ [cb])) := Lib.hid (Bs.of_own (by rw [List.map_append, List.map_singleton, show bv cb = .int .u8 (cc : Nat) by rw [← HCB.out], List.map_append, List.append_assoc]; exact hown8))
  have HR := Lib.hid (HR.out.below HB8.out (by omega))
  have HX := Lib.hid (HX.out.below HB8.out (by omega))
  have HB8 := Lib.hid (HB6.out.trans (HB8.out.mono (by omega)))
  have HN := Lib.hid (parse_none A8 (M + 1) c8 30 x8 rfl (fun w' hb => read_none A8 (M + 1) c8 _ _ w' (HAL.out.below hb) (by omega) (by have := HMM.out; omega) HC8.out.1 HC8.out.2 _ rfl (fin_none ah n s a l true cb M HL.out HMM.out)))
  clear hown8 hgrow8 hat8 HB7 HO7 HB6 hb8
  go_wp2_with fail
  refine HN.out.mono ?_
  rintro e w9 ⟨rfl, hb9⟩
  have HR := Lib.hid (HR.out.below' hb9)
  have HX := Lib.hid (HX.out.below' hb9)
  have HB9 := Lib.hid (HB8.out.trans (hb9.mono HB8.out.size))
  have r0 := HR.out.cell 0
  have r1 := HR.out.cell 1
  have r2 := HR.out.cell 2
  have r3 := HR.out.cell 3
  have q0 := HX.out.cell 0
  have q1 := HX.out.cell 1
  have q2 := HX.out.cell 2
  have q3 := HX.out.cell 3
  have hlR := HR.out.lt
  have hlX := HX.out.lt
  simp at r0 r1 r2 r3 q0 q1 q2 q3
  clear hb9 HN
  go_wp2
  go_ret
  exact ⟨rfl, HB9.out.alloc HB9.out.size _⟩
end Go.Proofs.Ytgjkkapopjpohaa
