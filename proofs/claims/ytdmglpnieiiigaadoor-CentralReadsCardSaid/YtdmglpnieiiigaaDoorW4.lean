/- The page's Parse. -/
import Derived.Test.YtdmglpnieiiigaaDoorW2
namespace Go.Proofs.YtdmglpnieiiigaaDoor
open Go.RowKit

set_option maxHeartbeats 8000000 in
set_option maxRecDepth 100000 in
theorem rparse_wide_big (A : Option Addr) (n c : Nat) (bs : List UInt8) (S : Nat → Prop) (w : World) (hS : ∀ b, S b → b < w.heap.size) (vr fl f8 f2 me ck dt cr pk sz ln pl : Nat) (nm : ByteArray) (ty tmo td th tmi ts : Int) (tk lt : Bool) (hB : Bs w S A n bs) (hn : n ≤ 1000) (h46 : 46 + ln ≤ n) (hnc : n ≤ c)
    (n1 : num ((bs.drop 6).take 2) = vr) (n2 : num ((bs.drop 8).take 2) = fl) (n3 : num ((bs.drop 10).take 2) = me) (n4 : num ((bs.drop 12).take 2) = ck) (n5 : num ((bs.drop 14).take 2) = dt) (n6 : num ((bs.drop 16).take 4) = cr) (n7 : num ((bs.drop 20).take 4) = pk) (n8 : num ((bs.drop 24).take 4) = sz) (n9 : num ((bs.drop 28).take 2) = ln) (n10 : num ((bs.drop 42).take 4) = pl)
    (hf8 : fl / 8 = f8) (hf2 : f8 % 2 = f2) (hlt : (f2 == 1) = lt) (htk : rightD dt ck = tk) (htm : (if tk = true then tmD dt ck else tm 0 0 0 0 0 0) = tm ty tmo td th tmi ts) (hnm : (⟨((bs.drop 46).take ln).toArray⟩ : ByteArray) = nm) (z8 p8 at8 : Nat) (h74 : ln + 74 ≤ n) (_n11 : num ((bs.drop (ln + 50)).take 8) = z8) (_n12 : num ((bs.drop (ln + 58)).take 8) = p8) (_n13 : num ((bs.drop (ln + 66)).take 8) = at8) (hc46 : ¬ c = 46) (hwd : (vr == 45) = true) (hbig : ∃ q, q < 3 ∧ 8589934592 < num ((bs.drop (ln + 50 + 8 * q)).take 8)) : Calls Tryd.prog 13 #[.slice A n c] w (RPost w (.agg #[.string ⟨#[]⟩, .int .i64 0, .int .i64 0, .int .i64 0, .int .i64 0, .int .i64 0, .int .i64 0, .int .i64 0, .int .u32 0, .int .i64 0, .int .i64 0, .bool false, .bool false]) 0 0) := by
  obtain ⟨b, off, rfl, -, -, -⟩ := hB.at_ (i := 0) (by omega)
  have hb1 : vr < 65536 := n1 ▸ num_bd bs _ 2 _ (by decide)
  have hb2 : fl < 65536 := n2 ▸ num_bd bs _ 2 _ (by decide)
  have hb3 : me < 65536 := n3 ▸ num_bd bs _ 2 _ (by decide)
  have hb4 : ck < 65536 := n4 ▸ num_bd bs _ 2 _ (by decide)
  have hb5 : dt < 65536 := n5 ▸ num_bd bs _ 2 _ (by decide)
  have hb6 : cr < 4294967296 := n6 ▸ num_bd bs _ 4 _ (by decide)
  have hb7 : pk < 4294967296 := n7 ▸ num_bd bs _ 4 _ (by decide)
  have hb8 : sz < 4294967296 := n8 ▸ num_bd bs _ 4 _ (by decide)
  have hb9 : ln < 65536 := n9 ▸ num_bd bs _ 2 _ (by decide)
  have hb10 : pl < 4294967296 := n10 ▸ num_bd bs _ 4 _ (by decide)
  obtain ⟨HN1⟩ : Nonempty (Hid (∀ w', Bs w' S (some ⟨b, off, none⟩) n bs → Calls Tryd.prog 30 #[.slice (some ⟨b, off, none⟩) n c, .int .i64 6, .int .i64 2] w' fun e w'' => e = .returned (.int .i64 (vr : Nat)) ∧ w' = w'')) := ⟨Lib.hid fun w' h => rnum_any _ n c bs S 6 2 vr w' h (by omega) (by decide) (by decide) hn hnc n1 (by omega)⟩
  obtain ⟨HN2⟩ : Nonempty (Hid (∀ w', Bs w' S (some ⟨b, off, none⟩) n bs → Calls Tryd.prog 30 #[.slice (some ⟨b, off, none⟩) n c, .int .i64 8, .int .i64 2] w' fun e w'' => e = .returned (.int .i64 (fl : Nat)) ∧ w' = w'')) := ⟨Lib.hid fun w' h => rnum_any _ n c bs S 8 2 fl w' h (by omega) (by decide) (by decide) hn hnc n2 (by omega)⟩
  obtain ⟨HN3⟩ : Nonempty (Hid (∀ w', Bs w' S (some ⟨b, off, none⟩) n bs → Calls Tryd.prog 30 #[.slice (some ⟨b, off, none⟩) n c, .int .i64 10, .int .i64 2] w' fun e w'' => e = .returned (.int .i64 (me : Nat)) ∧ w' = w'')) := ⟨Lib.hid fun w' h => rnum_any _ n c bs S 10 2 me w' h (by omega) (by decide) (by decide) hn hnc n3 (by omega)⟩
  obtain ⟨HN4⟩ : Nonempty (Hid (∀ w', Bs w' S (some ⟨b, off, none⟩) n bs → Calls Tryd.prog 30 #[.slice (some ⟨b, off, none⟩) n c, .int .i64 12, .int .i64 2] w' fun e w'' => e = .returned (.int .i64 (ck : Nat)) ∧ w' = w'')) := ⟨Lib.hid fun w' h => rnum_any _ n c bs S 12 2 ck w' h (by omega) (by decide) (by decide) hn hnc n4 (by omega)⟩
  obtain ⟨HN5⟩ : Nonempty (Hid (∀ w', Bs w' S (some ⟨b, off, none⟩) n bs → Calls Tryd.prog 30 #[.slice (some ⟨b, off, none⟩) n c, .int .i64 14, .int .i64 2] w' fun e w'' => e = .returned (.int .i64 (dt : Nat)) ∧ w' = w'')) := ⟨Lib.hid fun w' h => rnum_any _ n c bs S 14 2 dt w' h (by omega) (by decide) (by decide) hn hnc n5 (by omega)⟩
  obtain ⟨HN6⟩ : Nonempty (Hid (∀ w', Bs w' S (some ⟨b, off, none⟩) n bs → Calls Tryd.prog 30 #[.slice (some ⟨b, off, none⟩) n c, .int .i64 16, .int .i64 4] w' fun e w'' => e = .returned (.int .i64 (cr : Nat)) ∧ w' = w'')) := ⟨Lib.hid fun w' h => rnum_any _ n c bs S 16 4 cr w' h (by omega) (by decide) (by decide) hn hnc n6 (by omega)⟩
  obtain ⟨HN7⟩ : Nonempty (Hid (∀ w', Bs w' S (some ⟨b, off, none⟩) n bs → Calls Tryd.prog 30 #[.slice (some ⟨b, off, none⟩) n c, .int .i64 20, .int .i64 4] w' fun e w'' => e = .returned (.int .i64 (pk : Nat)) ∧ w' = w'')) := ⟨Lib.hid fun w' h => rnum_any _ n c bs S 20 4 pk w' h (by omega) (by decide) (by decide) hn hnc n7 (by omega)⟩
  obtain ⟨HN8⟩ : Nonempty (Hid (∀ w', Bs w' S (some ⟨b, off, none⟩) n bs → Calls Tryd.prog 30 #[.slice (some ⟨b, off, none⟩) n c, .int .i64 24, .int .i64 4] w' fun e w'' => e = .returned (.int .i64 (sz : Nat)) ∧ w' = w'')) := ⟨Lib.hid fun w' h => rnum_any _ n c bs S 24 4 sz w' h (by omega) (by decide) (by decide) hn hnc n8 (by omega)⟩
  obtain ⟨HN9⟩ : Nonempty (Hid (∀ w', Bs w' S (some ⟨b, off, none⟩) n bs → Calls Tryd.prog 30 #[.slice (some ⟨b, off, none⟩) n c, .int .i64 28, .int .i64 2] w' fun e w'' => e = .returned (.int .i64 (ln : Nat)) ∧ w' = w'')) := ⟨Lib.hid fun w' h => rnum_any _ n c bs S 28 2 ln w' h (by omega) (by decide) (by decide) hn hnc n9 (by omega)⟩
  obtain ⟨HN10⟩ : Nonempty (Hid (∀ w', Bs w' S (some ⟨b, off, none⟩) n bs → Calls Tryd.prog 30 #[.slice (some ⟨b, off, none⟩) n c, .int .i64 42, .int .i64 4] w' fun e w'' => e = .returned (.int .i64 (pl : Nat)) ∧ w' = w'')) := ⟨Lib.hid fun w' h => rnum_any _ n c bs S 42 4 pl w' h (by omega) (by decide) (by decide) hn hnc n10 (by omega)⟩
  obtain ⟨HDc⟩ : Nonempty (Hid (∀ w', Calls Tryd.prog 31 #[.int .i64 (dt : Nat), .int .i64 (ck : Nat)] w' fun e w'' => e = .returned (.tuple #[tm ty tmo td th tmi ts, .bool tk]) ∧ Below w'.heap.size w' w'')) := ⟨Lib.hid fun w' => by
    have h := rdecode_any (dt : Int) (ck : Int) w' tk htk (by omega) (by omega) (by omega) (by omega)
    rw [htm] at h
    exact h⟩
  obtain ⟨w0, hw0⟩ : ∃ w0, (w.alloc (.cells #[.string ⟨#[]⟩, .int .i64 0, .int .i64 0, .int .i64 0, .int .i64 0, .int .i64 0, .int .i64 0, .int .i64 0, .int .u32 0, .int .i64 0, .int .i64 0, .bool false, .bool false] 30)).alloc (.cells #[.string ⟨#[]⟩, .int .i64 0, .int .i64 0, .int .i64 0, .int .i64 0, .int .i64 0, .int .i64 0, .int .i64 0, .int .u32 0, .int .i64 0, .int .i64 0, .bool false, .bool false] 30) = w0 := ⟨_, rfl⟩
  have HB : Hid (Below w.heap.size w w0) := Lib.hid (by rw [← hw0]; exact ((Below.refl _ _).alloc (Nat.le_refl _) _).alloc (by simp) _)
  have HZ : Hid (Whole w0 w.heap.size 30 #[.string ⟨#[]⟩, .int .i64 0, .int .i64 0, .int .i64 0, .int .i64 0, .int .i64 0, .int .i64 0, .int .i64 0, .int .u32 0, .int .i64 0, .int .i64 0, .bool false, .bool false]) := Lib.hid (by rw [← hw0]; exact (Whole.new w 30 _ rfl).alloc _)
  have HU : Hid (Whole w0 (w.heap.size + 1) 30 #[.string ⟨#[]⟩, .int .i64 0, .int .i64 0, .int .i64 0, .int .i64 0, .int .i64 0, .int .i64 0, .int .i64 0, .int .u32 0, .int .i64 0, .int .i64 0, .bool false, .bool false]) := Lib.hid (by rw [← hw0]; exact Whole.new _ 30 _ (by simp))
  have HBS : Hid (Bs w0 S (some ⟨b, off, none⟩) n bs) := Lib.hid (by rw [← hw0]; exact (hB.alloc _).alloc _)
  have HE0 := Lib.hid hw0
  have hlt0 := HZ.out.lt
  have hltU := HU.out.lt
  clear hw0
  have HS := Lib.hid hS
  have HNM := Lib.hid hnm
  have d1 : decide (n < 46) = false := decide_eq_false (by omega)
  have d1' : decide ((n : Int) < 46) = false := decide_eq_false (by omega)
  obtain ⟨m3, hm3⟩ : ∃ m, n - 46 = m := ⟨_, rfl⟩
  have e1 : IntKind.i64.wrap ((n : Int) - 46) = (m3 : Int) := by rw [IntWalk.i64_in _ (by omega)]; omega
  have e1' : ((n : Int) - 46) = (m3 : Int) := by omega
  have d2 : decide ((m3 : Int) < (ln : Int)) = false := decide_eq_false (by omega)
  have d2' : decide (m3 < ln) = false := decide_eq_false (by omega)
  obtain ⟨M, hM⟩ : ∃ M, 46 + ln = M := ⟨_, rfl⟩
  have k1 : IntKind.i64.wrap (46 + (ln : Int)) = (M : Int) := by rw [IntWalk.i64_in _ (by omega)]; omega
  have k1' : (46 : Int) + (ln : Int) = (M : Int) := by omega
  have k2 : (M : Int) ≤ (c : Int) := by omega
  have k3 : (46 : Int) ≤ (M : Int) := by omega
  have k4 : M - 46 = ln := by omega
  have v1 : ((vr : Int) == 45) = true := by rw [← hwd]; exact natbeq vr 45
  have v2 : Int.tdiv (fl : Int) 8 = (f8 : Int) := by rw [← hf8]; rfl
  have v3 : Int.tmod (f8 : Int) 2 = (f2 : Int) := by rw [← hf2]; rfl
  have v4 : ((f2 : Int) == 1) = lt := by rw [← hlt]; exact natbeq f2 1
  have w8 : IntKind.i64.wrap (f8 : Int) = (f8 : Int) := IntWalk.i64_in _ (by omega)
  have w2 : IntKind.i64.wrap (f2 : Int) = (f2 : Int) := IntWalk.i64_in _ (by omega)
  have wc : IntKind.u32.wrap (cr : Int) = (cr : Int) := IntWalk.u32_in _ (by omega)
  obtain ⟨a50, h50⟩ : ∃ a, ln + 50 = a := ⟨_, rfl⟩
  obtain ⟨a58, h58⟩ : ∃ a, ln + 58 = a := ⟨_, rfl⟩
  obtain ⟨a66, h66⟩ : ∃ a, ln + 66 = a := ⟨_, rfl⟩
  obtain ⟨a74, h74'⟩ : ∃ a, ln + 74 = a := ⟨_, rfl⟩
  rw [h50] at _n11
  rw [h58] at _n12
  rw [h66] at _n13
  have ia50 : IntKind.i64.wrap (50 + (ln : Int)) = (a50 : Int) := by rw [IntWalk.i64_in _ (by omega)]; omega
  have ja50 : (50 : Int) + (ln : Int) = (a50 : Int) := by omega
  have ia58 : IntKind.i64.wrap (58 + (ln : Int)) = (a58 : Int) := by rw [IntWalk.i64_in _ (by omega)]; omega
  have ja58 : (58 : Int) + (ln : Int) = (a58 : Int) := by omega
  have ia66 : IntKind.i64.wrap (66 + (ln : Int)) = (a66 : Int) := by rw [IntWalk.i64_in _ (by omega)]; omega
  have ja66 : (66 : Int) + (ln : Int) = (a66 : Int) := by omega
  have ia74 : IntKind.i64.wrap (74 + (ln : Int)) = (a74 : Int) := by rw [IntWalk.i64_in _ (by omega)]; omega
  have ja74 : (74 : Int) + (ln : Int) = (a74 : Int) := by omega
  have p1 : decide ((n : Int) < (a74 : Int)) = false := decide_eq_false (by omega)
  have p1' : decide (n < a74) = false := decide_eq_false (by omega)
  have HA5 : Hid (a50 + 24 ≤ n ∧ a58 = a50 + 8 ∧ a66 = a50 + 16) := Lib.hid (by omega)
  obtain ⟨HG⟩ : Nonempty (Hid (∀ (o v : Nat) w', Bs w' S (some ⟨b, off, none⟩) n bs → o + 8 ≤ n → num ((bs.drop o).take 8) = v → ∀ C, Calls Tryd.prog 32 #[.slice (some ⟨b, off + o, none⟩) 8 C] w' fun e w'' => e = .returned (.int .u64 (v : Nat)) ∧ w' = w'')) := ⟨Lib.hid fun o v w' h ho hv C => by
    have h2 := number_any (some ⟨b, off + o, none⟩) 8 C ((bs.drop o).take 8) S w' ((h.drop (k := o) (by omega)).take (by omega)) (by decide)
    rw [hv] at h2
    exact h2⟩
  rw [h50] at hbig
  have HBIG := Lib.hid hbig
  clear hbig _n11 _n12 _n13 h50 h58 h66 h74' h74
  clear hB n1 n2 n3 n4 n5 n6 n7 n8 n9 n10 hS hnm htm htk hf8 hf2 hlt hwd
  go_enter Tryd.func13, Tryd.ntmps13
  go_wp2_with fail
  rw [HE0.out]
  refine (HN9.out _ HBS.out).mono ?_
  rintro e w1 ⟨rfl, rfl⟩
  go_wp2_with fail
  refine (HN9.out _ HBS.out).mono ?_
  rintro e w1 ⟨rfl, rfl⟩
  go_wp2_with fail
  refine (HN5.out _ HBS.out).mono ?_
  rintro e w1 ⟨rfl, rfl⟩
  go_wp2_with fail
  refine (HN4.out _ HBS.out).mono ?_
  rintro e w1 ⟨rfl, rfl⟩
  go_wp2_with fail
  refine (HDc.out _).mono ?_
  rintro e w1 ⟨rfl, hb1⟩
  have HB := Lib.hid (HB.out.trans (hb1.mono HB.out.size))
  have HZ := Lib.hid (HZ.out.below' hb1)
  have HU := Lib.hid (HU.out.below' hb1)
  have HBS := Lib.hid (HBS.out.below hb1)
  have hlt1 := HU.out.lt
  clear hb1
  go_wp2_with fail
  obtain ⟨w2, hw2⟩ : ∃ w2, w1.alloc (.cells #[.int .i64 ty, .int .i64 tmo, .int .i64 td, .int .i64 th, .int .i64 tmi, .int .i64 ts] 23) = w2 := ⟨_, rfl⟩
  have HQ : Hid (Whole w2 w1.heap.size 23 #[.int .i64 ty, .int .i64 tmo, .int .i64 td, .int .i64 th, .int .i64 tmi, .int .i64 ts]) := Lib.hid (hw2 ▸ Whole.new w1 23 _ rfl)
  have HB := Lib.hid (show Below w.heap.size w w2 from hw2 ▸ HB.out.alloc HB.out.size _)
  have HZ := Lib.hid (show Whole w2 w.heap.size 30 _ from hw2 ▸ HZ.out.alloc _)
  have HU := Lib.hid (show Whole w2 (w.heap.size + 1) 30 _ from hw2 ▸ HU.out.alloc _)
  have HBS := Lib.hid (show Bs w2 S _ n bs from hw2 ▸ HBS.out.alloc _)
  have hlt2 := HU.out.lt
  have hQ1 : w.heap.size + 1 < w1.heap.size := hlt1
  have hQ2 := HQ.out.lt
  rw [hw2]
  generalize w1.heap.size = q9 at HQ hw2 hlt1 hQ1 hQ2 ⊢
  clear hw2 hlt1
  have q0 := HQ.out.cell 0
  have q1 := HQ.out.cell 1
  have q2 := HQ.out.cell 2
  have q3 := HQ.out.cell 3
  have q4 := HQ.out.cell 4
  have q5 := HQ.out.cell 5
  have fq0 := HQ.out.free 0
  have fq1 := HQ.out.free 1
  have fq2 := HQ.out.free 2
  have fq3 := HQ.out.free 3
  have fq4 := HQ.out.free 4
  have fq5 := HQ.out.free 5
  simp at q0 q1 q2 q3 q4 q5
  obtain ⟨C9, hC9⟩ : ∃ C, c - 46 = C := ⟨_, rfl⟩
  have HSL : Hid (Bs w2 S (some ⟨b, off + 46, none⟩) ln ((bs.drop 46).take ln)) := Lib.hid ((HBS.out.drop (k := 46) (by omega)).take (k := ln) (by omega))
  have kn := fun mm => str_val (w := w2.over mm) C9 nm (HSL.out.below (World.over_below w2 mm)) HNM.out
  have HC9 := Lib.hid hC9
  refine wp_region_free_tail2 25 [7, 9, 12, 14, 16, 19, 23] (by kernel_rfl) (by kernel_rfl) (by kernel_rfl) (by kernel_rfl) ?_
  simp only [List.take_succ_cons, List.take_zero, List.drop_succ_cons, List.drop_zero]
  iterate 7 (first | ((with_reducible refine vfree_skip rfl ?_ ?_); (focus rfl); intro K hK; go_big_quiet_op; go_big_quiet_on) | ((with_reducible refine vfree_hard ?_ ?_ ?_); (focus rfl); (focus rfl); intro K hK; go_big_quiet_op; go_big_quiet_on))
  refine vfree_one (.int .i64 (me : Nat)) rfl rfl rfl (fun w' hw' => ?_) ?_
  · have hb := hw'.1.below
    go_simp
    exact Calls.one_same ((HN3.out w' (HBS.out.below hb)).mono fun _ _ h => ⟨h.1, h.2⟩)
  intro K hK
  go_big_quiet_op
  go_big_quiet_on
  iterate 1 (first | ((with_reducible refine vfree_skip rfl ?_ ?_); (focus rfl); intro K hK; go_big_quiet_op; go_big_quiet_on) | ((with_reducible refine vfree_hard ?_ ?_ ?_); (focus rfl); (focus rfl); intro K hK; go_big_quiet_op; go_big_quiet_on))
  refine vfree_one (.int .i64 (cr : Nat)) rfl rfl rfl (fun w' hw' => ?_) ?_
  · have hb := hw'.1.below
    go_simp
    exact Calls.one_same ((HN6.out w' (HBS.out.below hb)).mono fun _ _ h => ⟨h.1, h.2⟩)
  intro K hK
  go_big_quiet_op
  go_big_quiet_on
  iterate 2 (first | ((with_reducible refine vfree_skip rfl ?_ ?_); (focus rfl); intro K hK; go_big_quiet_op; go_big_quiet_on) | ((with_reducible refine vfree_hard ?_ ?_ ?_); (focus rfl); (focus rfl); intro K hK; go_big_quiet_op; go_big_quiet_on))
  refine vfree_one (.int .i64 (pk : Nat)) rfl rfl rfl (fun w' hw' => ?_) ?_
  · have hb := hw'.1.below
    go_simp
    exact Calls.one_same ((HN7.out w' (HBS.out.below hb)).mono fun _ _ h => ⟨h.1, h.2⟩)
  intro K hK
  go_big_quiet_op
  go_big_quiet_on
  iterate 1 (first | ((with_reducible refine vfree_skip rfl ?_ ?_); (focus rfl); intro K hK; go_big_quiet_op; go_big_quiet_on) | ((with_reducible refine vfree_hard ?_ ?_ ?_); (focus rfl); (focus rfl); intro K hK; go_big_quiet_op; go_big_quiet_on))
  refine vfree_one (.int .i64 (sz : Nat)) rfl rfl rfl (fun w' hw' => ?_) ?_
  · have hb := hw'.1.below
    go_simp
    exact Calls.one_same ((HN8.out w' (HBS.out.below hb)).mono fun _ _ h => ⟨h.1, h.2⟩)
  intro K hK
  go_big_quiet_op
  go_big_quiet_on
  iterate 1 (first | ((with_reducible refine vfree_skip rfl ?_ ?_); (focus rfl); intro K hK; go_big_quiet_op; go_big_quiet_on) | ((with_reducible refine vfree_hard ?_ ?_ ?_); (focus rfl); (focus rfl); intro K hK; go_big_quiet_op; go_big_quiet_on))
  refine vfree_one (.int .i64 (vr : Nat)) rfl rfl rfl (fun w' hw' => ?_) ?_
  · have hb := hw'.1.below
    go_simp
    exact Calls.one_same ((HN1.out w' (HBS.out.below hb)).mono fun _ _ h => ⟨h.1, h.2⟩)
  intro K hK
  go_big_quiet_op
  go_big_quiet_on
  iterate 2 (first | ((with_reducible refine vfree_skip rfl ?_ ?_); (focus rfl); intro K hK; go_big_quiet_op; go_big_quiet_on) | ((with_reducible refine vfree_hard ?_ ?_ ?_); (focus rfl); (focus rfl); intro K hK; go_big_quiet_op; go_big_quiet_on))
  refine vfree_one (.int .i64 (fl : Nat)) rfl rfl rfl (fun w' hw' => ?_) ?_
  · have hb := hw'.1.below
    go_simp
    exact Calls.one_same ((HN2.out w' (HBS.out.below hb)).mono fun _ _ h => ⟨h.1, h.2⟩)
  intro K hK
  go_big_quiet_op
  go_big_quiet_on
  iterate 3 (first | ((with_reducible refine vfree_skip rfl ?_ ?_); (focus rfl); intro K hK; go_big_quiet_op; go_big_quiet_on) | ((with_reducible refine vfree_hard ?_ ?_ ?_); (focus rfl); (focus rfl); intro K hK; go_big_quiet_op; go_big_quiet_on))
  refine vfree_one (.agg #[.string nm, .int .i64 ty, .int .i64 tmo, .int .i64 td, .int .i64 th, .int .i64 tmi, .int .i64 ts, .int .i64 (me : Nat), .int .u32 (cr : Nat), .int .i64 (pk : Nat), .int .i64 (sz : Nat), .bool true, .bool lt]) rfl rfl rfl (fun w' hw' => ?_) ?_
  · clear hw'
    go_simp
    exact ⟨Below.refl _ _, rfl⟩
  intro K hK
  go_big_quiet_op
  go_big_quiet_on
  refine vfree_soft (ι := Nat) (fun i => .pointer (some ⟨i, 0, none⟩)) (fun i w' => w2.heap.size ≤ i ∧ Whole w' i 30 #[.string ⟨#[]⟩, .int .i64 0, .int .i64 0, .int .i64 0, .int .i64 0, .int .i64 0, .int .i64 0, .int .i64 0, .int .u32 0, .int .i64 0, .int .i64 0, .bool false, .bool false]) rfl rfl rfl (fun _ => fun _ _ h he => ⟨h.1, h.2.below' he⟩) (fun w' hw' => ?_) (fun T => ?_)
  · have hb := hw'.1.below
    clear hw'
    go_simp
    exact ⟨(Below.refl _ _).alloc (Nat.le_refl _) _, w'.heap.size, rfl, hb.size, Whole.new w' 30 _ rfl⟩
  intro K hK
  go_big_quiet_op
  go_big_quiet_on
  refine vfree_nil ?_
  intro w4 hb4 hk4
  obtain ⟨hT, hX⟩ := (hk4 24).1
  have HB := Lib.hid (HB.out.trans (hb4.mono HB.out.size))
  have HX := Lib.hid hX
  have HZ := Lib.hid (HZ.out.below' hb4)
  have HU := Lib.hid (HU.out.below' hb4)
  have HBS := Lib.hid (HBS.out.below hb4)
  have hwT : w.heap.size + 1 < T := by omega
  clear hk4 hb4 hX
  have x0 := HX.out.cell 0
  have x1 := HX.out.cell 1
  have x2 := HX.out.cell 2
  have x3 := HX.out.cell 3
  have x4 := HX.out.cell 4
  have x5 := HX.out.cell 5
  have x6 := HX.out.cell 6
  have x7 := HX.out.cell 7
  have x8 := HX.out.cell 8
  have x9 := HX.out.cell 9
  have x10 := HX.out.cell 10
  have x11 := HX.out.cell 11
  have x12 := HX.out.cell 12
  have fx0 := HX.out.free 0
  have fx1 := HX.out.free 1
  have fx2 := HX.out.free 2
  have fx3 := HX.out.free 3
  have fx4 := HX.out.free 4
  have fx5 := HX.out.free 5
  have fx6 := HX.out.free 6
  have fx7 := HX.out.free 7
  have fx8 := HX.out.free 8
  have fx9 := HX.out.free 9
  have fx10 := HX.out.free 10
  have fx11 := HX.out.free 11
  have fx12 := HX.out.free 12
  simp at x0 x1 x2 x3 x4 x5 x6 x7 x8 x9 x10 x11 x12
  have hlX := HX.out.lt
  go_wp2_with fail
  have HX := Lib.hid (HX.out.put 0 (.string nm) rfl)
  have HBS := Lib.hid (HBS.out.put (p := ⟨T, 0, none⟩) (.string nm) (fun b hb => by have := HS.out b hb; show b ≠ T; omega))
  have HZ := Lib.hid (HZ.out.other (p := ⟨T, 0, none⟩) (by show w.heap.size ≠ T; omega) (.string nm))
  have HU := Lib.hid (HU.out.other (p := ⟨T, 0, none⟩) (by show w.heap.size + 1 ≠ T; omega) (.string nm))
  have HB := Lib.hid (HB.out.setCell (p := ⟨T, 0, none⟩) (by show w.heap.size ≤ T; omega) (.string nm))
  have HX := Lib.hid (HX.out.put 1 (.int .i64 ty) rfl)
  have HBS := Lib.hid (HBS.out.put (p := ⟨T, 1, none⟩) (.int .i64 ty) (fun b hb => by have := HS.out b hb; show b ≠ T; omega))
  have HZ := Lib.hid (HZ.out.other (p := ⟨T, 1, none⟩) (by show w.heap.size ≠ T; omega) (.int .i64 ty))
  have HU := Lib.hid (HU.out.other (p := ⟨T, 1, none⟩) (by show w.heap.size + 1 ≠ T; omega) (.int .i64 ty))
  have HB := Lib.hid (HB.out.setCell (p := ⟨T, 1, none⟩) (by show w.heap.size ≤ T; omega) (.int .i64 ty))
  have HX := Lib.hid (HX.out.put 2 (.int .i64 tmo) rfl)
  have HBS := Lib.hid (HBS.out.put (p := ⟨T, 2, none⟩) (.int .i64 tmo) (fun b hb => by have := HS.out b hb; show b ≠ T; omega))
  have HZ := Lib.hid (HZ.out.other (p := ⟨T, 2, none⟩) (by show w.heap.size ≠ T; omega) (.int .i64 tmo))
  have HU := Lib.hid (HU.out.other (p := ⟨T, 2, none⟩) (by show w.heap.size + 1 ≠ T; omega) (.int .i64 tmo))
  have HB := Lib.hid (HB.out.setCell (p := ⟨T, 2, none⟩) (by show w.heap.size ≤ T; omega) (.int .i64 tmo))
  have HX := Lib.hid (HX.out.put 3 (.int .i64 td) rfl)
  have HBS := Lib.hid (HBS.out.put (p := ⟨T, 3, none⟩) (.int .i64 td) (fun b hb => by have := HS.out b hb; show b ≠ T; omega))
  have HZ := Lib.hid (HZ.out.other (p := ⟨T, 3, none⟩) (by show w.heap.size ≠ T; omega) (.int .i64 td))
  have HU := Lib.hid (HU.out.other (p := ⟨T, 3, none⟩) (by show w.heap.size + 1 ≠ T; omega) (.int .i64 td))
  have HB := Lib.hid (HB.out.setCell (p := ⟨T, 3, none⟩) (by show w.heap.size ≤ T; omega) (.int .i64 td))
  have HX := Lib.hid (HX.out.put 4 (.int .i64 th) rfl)
  have HBS := Lib.hid (HBS.out.put (p := ⟨T, 4, none⟩) (.int .i64 th) (fun b hb => by have := HS.out b hb; show b ≠ T; omega))
  have HZ := Lib.hid (HZ.out.other (p := ⟨T, 4, none⟩) (by show w.heap.size ≠ T; omega) (.int .i64 th))
  have HU := Lib.hid (HU.out.other (p := ⟨T, 4, none⟩) (by show w.heap.size + 1 ≠ T; omega) (.int .i64 th))
  have HB := Lib.hid (HB.out.setCell (p := ⟨T, 4, none⟩) (by show w.heap.size ≤ T; omega) (.int .i64 th))
  have HX := Lib.hid (HX.out.put 5 (.int .i64 tmi) rfl)
  have HBS := Lib.hid (HBS.out.put (p := ⟨T, 5, none⟩) (.int .i64 tmi) (fun b hb => by have := HS.out b hb; show b ≠ T; omega))
  have HZ := Lib.hid (HZ.out.other (p := ⟨T, 5, none⟩) (by show w.heap.size ≠ T; omega) (.int .i64 tmi))
  have HU := Lib.hid (HU.out.other (p := ⟨T, 5, none⟩) (by show w.heap.size + 1 ≠ T; omega) (.int .i64 tmi))
  have HB := Lib.hid (HB.out.setCell (p := ⟨T, 5, none⟩) (by show w.heap.size ≤ T; omega) (.int .i64 tmi))
  have HX := Lib.hid (HX.out.put 6 (.int .i64 ts) rfl)
  have HBS := Lib.hid (HBS.out.put (p := ⟨T, 6, none⟩) (.int .i64 ts) (fun b hb => by have := HS.out b hb; show b ≠ T; omega))
  have HZ := Lib.hid (HZ.out.other (p := ⟨T, 6, none⟩) (by show w.heap.size ≠ T; omega) (.int .i64 ts))
  have HU := Lib.hid (HU.out.other (p := ⟨T, 6, none⟩) (by show w.heap.size + 1 ≠ T; omega) (.int .i64 ts))
  have HB := Lib.hid (HB.out.setCell (p := ⟨T, 6, none⟩) (by show w.heap.size ≤ T; omega) (.int .i64 ts))
  have HX := Lib.hid (HX.out.put 7 (.int .i64 (me : Nat)) rfl)
  have HBS := Lib.hid (HBS.out.put (p := ⟨T, 7, none⟩) (.int .i64 (me : Nat)) (fun b hb => by have := HS.out b hb; show b ≠ T; omega))
  have HZ := Lib.hid (HZ.out.other (p := ⟨T, 7, none⟩) (by show w.heap.size ≠ T; omega) (.int .i64 (me : Nat)))
  have HU := Lib.hid (HU.out.other (p := ⟨T, 7, none⟩) (by show w.heap.size + 1 ≠ T; omega) (.int .i64 (me : Nat)))
  have HB := Lib.hid (HB.out.setCell (p := ⟨T, 7, none⟩) (by show w.heap.size ≤ T; omega) (.int .i64 (me : Nat)))
  have HX := Lib.hid (HX.out.put 8 (.int .u32 (cr : Nat)) rfl)
  have HBS := Lib.hid (HBS.out.put (p := ⟨T, 8, none⟩) (.int .u32 (cr : Nat)) (fun b hb => by have := HS.out b hb; show b ≠ T; omega))
  have HZ := Lib.hid (HZ.out.other (p := ⟨T, 8, none⟩) (by show w.heap.size ≠ T; omega) (.int .u32 (cr : Nat)))
  have HU := Lib.hid (HU.out.other (p := ⟨T, 8, none⟩) (by show w.heap.size + 1 ≠ T; omega) (.int .u32 (cr : Nat)))
  have HB := Lib.hid (HB.out.setCell (p := ⟨T, 8, none⟩) (by show w.heap.size ≤ T; omega) (.int .u32 (cr : Nat)))
  have HX := Lib.hid (HX.out.put 9 (.int .i64 (pk : Nat)) rfl)
  have HBS := Lib.hid (HBS.out.put (p := ⟨T, 9, none⟩) (.int .i64 (pk : Nat)) (fun b hb => by have := HS.out b hb; show b ≠ T; omega))
  have HZ := Lib.hid (HZ.out.other (p := ⟨T, 9, none⟩) (by show w.heap.size ≠ T; omega) (.int .i64 (pk : Nat)))
  have HU := Lib.hid (HU.out.other (p := ⟨T, 9, none⟩) (by show w.heap.size + 1 ≠ T; omega) (.int .i64 (pk : Nat)))
  have HB := Lib.hid (HB.out.setCell (p := ⟨T, 9, none⟩) (by show w.heap.size ≤ T; omega) (.int .i64 (pk : Nat)))
  have HX := Lib.hid (HX.out.put 10 (.int .i64 (sz : Nat)) rfl)
  have HBS := Lib.hid (HBS.out.put (p := ⟨T, 10, none⟩) (.int .i64 (sz : Nat)) (fun b hb => by have := HS.out b hb; show b ≠ T; omega))
  have HZ := Lib.hid (HZ.out.other (p := ⟨T, 10, none⟩) (by show w.heap.size ≠ T; omega) (.int .i64 (sz : Nat)))
  have HU := Lib.hid (HU.out.other (p := ⟨T, 10, none⟩) (by show w.heap.size + 1 ≠ T; omega) (.int .i64 (sz : Nat)))
  have HB := Lib.hid (HB.out.setCell (p := ⟨T, 10, none⟩) (by show w.heap.size ≤ T; omega) (.int .i64 (sz : Nat)))
  have HX := Lib.hid (HX.out.put 11 (.bool true) rfl)
  have HBS := Lib.hid (HBS.out.put (p := ⟨T, 11, none⟩) (.bool true) (fun b hb => by have := HS.out b hb; show b ≠ T; omega))
  have HZ := Lib.hid (HZ.out.other (p := ⟨T, 11, none⟩) (by show w.heap.size ≠ T; omega) (.bool true))
  have HU := Lib.hid (HU.out.other (p := ⟨T, 11, none⟩) (by show w.heap.size + 1 ≠ T; omega) (.bool true))
  have HB := Lib.hid (HB.out.setCell (p := ⟨T, 11, none⟩) (by show w.heap.size ≤ T; omega) (.bool true))
  have HX := Lib.hid (HX.out.put 12 (.bool lt) rfl)
  have HBS := Lib.hid (HBS.out.put (p := ⟨T, 12, none⟩) (.bool lt) (fun b hb => by have := HS.out b hb; show b ≠ T; omega))
  have HZ := Lib.hid (HZ.out.other (p := ⟨T, 12, none⟩) (by show w.heap.size ≠ T; omega) (.bool lt))
  have HU := Lib.hid (HU.out.other (p := ⟨T, 12, none⟩) (by show w.heap.size + 1 ≠ T; omega) (.bool lt))
  have HB := Lib.hid (HB.out.setCell (p := ⟨T, 12, none⟩) (by show w.heap.size ≤ T; omega) (.bool lt))
  generalize (((((((((((((w4.setCell ⟨T, 0, none⟩ (.string nm)).setCell ⟨T, 1, none⟩ (.int .i64 ty)).setCell ⟨T, 2, none⟩ (.int .i64 tmo)).setCell ⟨T, 3, none⟩ (.int .i64 td)).setCell ⟨T, 4, none⟩ (.int .i64 th)).setCell ⟨T, 5, none⟩ (.int .i64 tmi)).setCell ⟨T, 6, none⟩ (.int .i64 ts)).setCell ⟨T, 7, none⟩ (.int .i64 (me : Nat))).setCell ⟨T, 8, none⟩ (.int .u32 (cr : Nat))).setCell ⟨T, 9, none⟩ (.int .i64 (pk : Nat))).setCell ⟨T, 10, none⟩ (.int .i64 (sz : Nat))).setCell ⟨T, 11, none⟩ (.bool true)).setCell ⟨T, 12, none⟩ (.bool lt)) = w8 at HX HBS HZ HU HB ⊢
  refine (HN10.out _ HBS.out).mono ?_
  rintro e w9 ⟨rfl, rfl⟩
  have hlX9 := HX.out.lt
  have x0 := HX.out.cell 0
  have x1 := HX.out.cell 1
  have x2 := HX.out.cell 2
  have x3 := HX.out.cell 3
  have x4 := HX.out.cell 4
  have x5 := HX.out.cell 5
  have x6 := HX.out.cell 6
  have x7 := HX.out.cell 7
  have x8 := HX.out.cell 8
  have x9 := HX.out.cell 9
  have x10 := HX.out.cell 10
  have x11 := HX.out.cell 11
  have x12 := HX.out.cell 12
  have fx0 := HX.out.free 0
  have fx1 := HX.out.free 1
  have fx2 := HX.out.free 2
  have fx3 := HX.out.free 3
  have fx4 := HX.out.free 4
  have fx5 := HX.out.free 5
  have fx6 := HX.out.free 6
  have fx7 := HX.out.free 7
  have fx8 := HX.out.free 8
  have fx9 := HX.out.free 9
  have fx10 := HX.out.free 10
  have fx11 := HX.out.free 11
  have fx12 := HX.out.free 12
  simp at x0 x1 x2 x3 x4 x5 x6 x7 x8 x9 x10 x11 x12
  go_wp2_with fail
  go_loopw [11] (fun i wr => ∃ (j : Nat), j ≤ 3 ∧ i = .int .i64 (j : Nat) ∧ wr = w8 ∧ Hid (∀ q, q < j → num ((bs.drop (a50 + 8 * q)).take 8) ≤ 8589934592)) (fun i _ => 3 - (intOf i).toNat)
  case atStart => exact ⟨0, by omega, rfl, rfl, Lib.hid (fun q hq => by omega)⟩
  case round =>
    obtain ⟨j, hj, rfl, rfl, HJ⟩ := hrel
    by_cases hlt3 : j < 3
    · have h1 : (0 : Int) ≤ (j : Int) := by omega
      have h2 : (j : Int) < 3 := by omega
      have h3 : ((j : Int)).toNat = j := by omega
      have hA5 := HA5.out
      obtain ⟨o, ho⟩ : ∃ o, a50 + 8 * j = o := ⟨_, rfl⟩
      obtain ⟨o8, ho8⟩ : ∃ o8, o + 8 = o8 := ⟨_, rfl⟩
      have m0 : IntKind.i64.wrap (8 * (j : Int)) = 8 * (j : Int) := IntWalk.i64_in _ (by omega)
      have m1 : IntKind.i64.wrap ((a50 : Int) + 8 * (j : Int)) = (o : Int) := by rw [IntWalk.i64_in _ (by omega)]; omega
      have m1' : (a50 : Int) + 8 * (j : Int) = (o : Int) := by omega
      have m2 : IntKind.i64.wrap ((a58 : Int) + 8 * (j : Int)) = (o8 : Int) := by rw [IntWalk.i64_in _ (by omega)]; omega
      have m2' : (a58 : Int) + 8 * (j : Int) = (o8 : Int) := by omega
      have m3' : (o : Int) ≤ (o8 : Int) := by omega
      have m4 : (o8 : Int) ≤ (c : Int) := by omega
      have m5 : o8 - o = 8 := by omega
      have m6 : ¬ c = o := by omega
      have HO := Lib.hid ho
      have HO8 : Hid (o + 8 ≤ n) := Lib.hid (by omega)
      obtain ⟨V, hV⟩ : ∃ V, num ((bs.drop o).take 8) = V := ⟨_, rfl⟩
      have HV := Lib.hid hV
      clear ho ho8 hV hA5
      go_wp2_with fail
      refine (HG.out o V _ HBS.out HO8.out HV.out _).mono ?_
      rintro e w9 ⟨rfl, rfl⟩
      by_cases hbg : 8589934592 < V
      · have g1 : decide (8589934592 < V) = true := decide_eq_true hbg
        have g1' : decide ((8589934592 : Int) < (V : Int)) = true := decide_eq_true (by omega)
        have x0 := HX.out.cell 0
        have x1 := HX.out.cell 1
        have x2 := HX.out.cell 2
        have x3 := HX.out.cell 3
        have x4 := HX.out.cell 4
        have x5 := HX.out.cell 5
        have x6 := HX.out.cell 6
        have x7 := HX.out.cell 7
        have x8 := HX.out.cell 8
        have x9 := HX.out.cell 9
        have x10 := HX.out.cell 10
        have x11 := HX.out.cell 11
        have x12 := HX.out.cell 12
        simp at x0 x1 x2 x3 x4 x5 x6 x7 x8 x9 x10 x11 x12
        have zc0 := HZ.out.cell 0
        have zc1 := HZ.out.cell 1
        have zc2 := HZ.out.cell 2
        have zc3 := HZ.out.cell 3
        have zc4 := HZ.out.cell 4
        have zc5 := HZ.out.cell 5
        have zc6 := HZ.out.cell 6
        have zc7 := HZ.out.cell 7
        have zc8 := HZ.out.cell 8
        have zc9 := HZ.out.cell 9
        have zc10 := HZ.out.cell 10
        have zc11 := HZ.out.cell 11
        have zc12 := HZ.out.cell 12
        have fzc0 := HZ.out.free 0
        have fzc1 := HZ.out.free 1
        have fzc2 := HZ.out.free 2
        have fzc3 := HZ.out.free 3
        have fzc4 := HZ.out.free 4
        have fzc5 := HZ.out.free 5
        have fzc6 := HZ.out.free 6
        have fzc7 := HZ.out.free 7
        have fzc8 := HZ.out.free 8
        have fzc9 := HZ.out.free 9
        have fzc10 := HZ.out.free 10
        have fzc11 := HZ.out.free 11
        have fzc12 := HZ.out.free 12
        simp at zc0 zc1 zc2 zc3 zc4 zc5 zc6 zc7 zc8 zc9 zc10 zc11 zc12
        have u0 := HU.out.cell 0
        have u1 := HU.out.cell 1
        have u2 := HU.out.cell 2
        have u3 := HU.out.cell 3
        have u4 := HU.out.cell 4
        have u5 := HU.out.cell 5
        have u6 := HU.out.cell 6
        have u7 := HU.out.cell 7
        have u8 := HU.out.cell 8
        have u9 := HU.out.cell 9
        have u10 := HU.out.cell 10
        have u11 := HU.out.cell 11
        have u12 := HU.out.cell 12
        simp at u0 u1 u2 u3 u4 u5 u6 u7 u8 u9 u10 u11 u12
        have hlZ9 := HZ.out.lt
        have hlU9 := HU.out.lt
        have HM := Lib.hid ((((((((((((((HZ.out.put 0 (.string ⟨#[]⟩) rfl).put 1 (.int .i64 0) rfl).put 2 (.int .i64 0) rfl).put 3 (.int .i64 0) rfl).put 4 (.int .i64 0) rfl).put 5 (.int .i64 0) rfl).put 6 (.int .i64 0) rfl).put 7 (.int .i64 0) rfl).put 8 (.int .u32 0) rfl).put 9 (.int .i64 0) rfl).put 10 (.int .i64 0) rfl).put 11 (.bool false) rfl).put 12 (.bool false) rfl))
        have h0 := HM.out.cell 0
        have h1 := HM.out.cell 1
        have h2 := HM.out.cell 2
        have h3 := HM.out.cell 3
        have h4 := HM.out.cell 4
        have h5 := HM.out.cell 5
        have h6 := HM.out.cell 6
        have h7 := HM.out.cell 7
        have h8 := HM.out.cell 8
        have h9 := HM.out.cell 9
        have h10 := HM.out.cell 10
        have h11 := HM.out.cell 11
        have h12 := HM.out.cell 12
        simp at h0 h1 h2 h3 h4 h5 h6 h7 h8 h9 h10 h11 h12
        go_wp2
        simp [bodyPost, results, Tryd.results13, go_sem, h0, h1, h2, h3, h4, h5, h6, h7, h8, h9, h10, h11, h12]
        exact ⟨rfl, (((((((((((((HB.out.setCell (by show w.heap.size ≤ w.heap.size; omega) _).setCell (by show w.heap.size ≤ w.heap.size; omega) _).setCell (by show w.heap.size ≤ w.heap.size; omega) _).setCell (by show w.heap.size ≤ w.heap.size; omega) _).setCell (by show w.heap.size ≤ w.heap.size; omega) _).setCell (by show w.heap.size ≤ w.heap.size; omega) _).setCell (by show w.heap.size ≤ w.heap.size; omega) _).setCell (by show w.heap.size ≤ w.heap.size; omega) _).setCell (by show w.heap.size ≤ w.heap.size; omega) _).setCell (by show w.heap.size ≤ w.heap.size; omega) _).setCell (by show w.heap.size ≤ w.heap.size; omega) _).setCell (by show w.heap.size ≤ w.heap.size; omega) _).setCell (by show w.heap.size ≤ w.heap.size; omega) _)⟩
      · have g1 : decide (8589934592 < V) = false := decide_eq_false hbg
        have g1' : decide ((8589934592 : Int) < (V : Int)) = false := decide_eq_false (by omega)
        have HJ2 : Hid (∀ q, q < j + 1 → num ((bs.drop (a50 + 8 * q)).take 8) ≤ 8589934592) := Lib.hid (fun q hq => by
          by_cases hqj : q = j
          · subst hqj
            rw [HO.out, HV.out]
            omega
          · exact HJ.out q (by omega))
        clear hbg
        go_wp2
        first
          | exact ⟨⟨j + 1, by omega, by simp, trivial, HJ2⟩, by show 3 - ((j : Int) + 1).toNat < 3 - ((j : Int)).toNat; omega⟩
          | exact ⟨⟨_, j + 1, by omega, by simp, trivial, HJ2⟩, by show 3 - ((j : Int) + 1).toNat < 3 - ((j : Int)).toNat; omega⟩
          | exact ⟨⟨_, _, j + 1, by omega, by simp, trivial, HJ2⟩, by show 3 - ((j : Int) + 1).toNat < 3 - ((j : Int)).toNat; omega⟩
          | exact ⟨⟨_, _, _, j + 1, by omega, by simp, trivial, HJ2⟩, by show 3 - ((j : Int) + 1).toNat < 3 - ((j : Int)).toNat; omega⟩
          | exact ⟨⟨_, _, _, _, j + 1, by omega, by simp, trivial, HJ2⟩, by show 3 - ((j : Int) + 1).toNat < 3 - ((j : Int)).toNat; omega⟩
          | exact ⟨⟨_, _, _, _, _, j + 1, by omega, by simp, trivial, HJ2⟩, by show 3 - ((j : Int) + 1).toNat < 3 - ((j : Int)).toNat; omega⟩
          | exact ⟨⟨_, _, _, _, _, _, j + 1, by omega, by simp, trivial, HJ2⟩, by show 3 - ((j : Int) + 1).toNat < 3 - ((j : Int)).toNat; omega⟩
          | exact ⟨⟨_, _, _, _, _, _, _, j + 1, by omega, by simp, trivial, HJ2⟩, by show 3 - ((j : Int) + 1).toNat < 3 - ((j : Int)).toNat; omega⟩
          | exact ⟨⟨_, _, _, _, _, _, _, _, j + 1, by omega, by simp, trivial, HJ2⟩, by show 3 - ((j : Int) + 1).toNat < 3 - ((j : Int)).toNat; omega⟩
          | exact ⟨⟨_, _, _, _, _, _, _, _, _, j + 1, by omega, by simp, trivial, HJ2⟩, by show 3 - ((j : Int) + 1).toNat < 3 - ((j : Int)).toNat; omega⟩
          | exact ⟨⟨_, _, _, _, _, _, _, _, _, _, j + 1, by omega, by simp, trivial, HJ2⟩, by show 3 - ((j : Int) + 1).toNat < 3 - ((j : Int)).toNat; omega⟩
          | exact ⟨⟨_, _, _, _, _, _, _, _, _, _, _, j + 1, by omega, by simp, trivial, HJ2⟩, by show 3 - ((j : Int) + 1).toNat < 3 - ((j : Int)).toNat; omega⟩
          | exact ⟨⟨_, _, _, _, _, _, _, _, _, _, _, _, j + 1, by omega, by simp, trivial, HJ2⟩, by show 3 - ((j : Int) + 1).toNat < 3 - ((j : Int)).toNat; omega⟩
          | exact ⟨⟨_, _, _, _, _, _, _, _, _, _, _, _, _, j + 1, by omega, by simp, trivial, HJ2⟩, by show 3 - ((j : Int) + 1).toNat < 3 - ((j : Int)).toNat; omega⟩
          | exact ⟨⟨_, _, _, _, _, _, _, _, _, _, _, _, _, _, j + 1, by omega, by simp, trivial, HJ2⟩, by show 3 - ((j : Int) + 1).toNat < 3 - ((j : Int)).toNat; omega⟩
          | exact ⟨⟨_, _, _, _, _, _, _, _, _, _, _, _, _, _, _, j + 1, by omega, by simp, trivial, HJ2⟩, by show 3 - ((j : Int) + 1).toNat < 3 - ((j : Int)).toNat; omega⟩
    · obtain rfl : j = 3 := by omega
      obtain ⟨q, hq3, hqb⟩ := HBIG.out
      exact absurd hqb (by have := HJ.out q hq3; omega)
set_option maxHeartbeats 8000000 in
set_option maxRecDepth 100000 in
theorem rparse_wide_time (A : Option Addr) (n c : Nat) (bs : List UInt8) (S : Nat → Prop) (w : World) (hS : ∀ b, S b → b < w.heap.size) (vr fl f8 f2 me ck dt cr pk sz ln pl : Nat) (nm : ByteArray) (ty tmo td th tmi ts : Int) (lt : Bool) (hB : Bs w S A n bs) (hn : n ≤ 1000) (h46 : 46 + ln ≤ n) (hnc : n ≤ c)
    (n1 : num ((bs.drop 6).take 2) = vr) (n2 : num ((bs.drop 8).take 2) = fl) (n3 : num ((bs.drop 10).take 2) = me) (n4 : num ((bs.drop 12).take 2) = ck) (n5 : num ((bs.drop 14).take 2) = dt) (n6 : num ((bs.drop 16).take 4) = cr) (n7 : num ((bs.drop 20).take 4) = pk) (n8 : num ((bs.drop 24).take 4) = sz) (n9 : num ((bs.drop 28).take 2) = ln) (n10 : num ((bs.drop 42).take 4) = pl)
    (hf8 : fl / 8 = f8) (hf2 : f8 % 2 = f2) (hlt : (f2 == 1) = lt) (htk : rightD dt ck = false) (htm : (if false = true then tmD dt ck else tm 0 0 0 0 0 0) = tm ty tmo td th tmi ts) (hnm : (⟨((bs.drop 46).take ln).toArray⟩ : ByteArray) = nm) (z8 p8 at8 : Nat) (h74 : ln + 74 ≤ n) (n11 : num ((bs.drop (ln + 50)).take 8) = z8) (n12 : num ((bs.drop (ln + 58)).take 8) = p8) (n13 : num ((bs.drop (ln + 66)).take 8) = at8) (hc46 : ¬ c = 46) (hwd : (vr == 45) = true) (hno : ∀ q, q < 3 → num ((bs.drop (ln + 50 + 8 * q)).take 8) ≤ 8589934592) : Calls Tryd.prog 13 #[.slice A n c] w (RPost w (.agg #[.string ⟨#[]⟩, .int .i64 0, .int .i64 0, .int .i64 0, .int .i64 0, .int .i64 0, .int .i64 0, .int .i64 0, .int .u32 0, .int .i64 0, .int .i64 0, .bool false, .bool false]) 0 0) := by
  obtain ⟨b, off, rfl, -, -, -⟩ := hB.at_ (i := 0) (by omega)
  have hb1 : vr < 65536 := n1 ▸ num_bd bs _ 2 _ (by decide)
  have hb2 : fl < 65536 := n2 ▸ num_bd bs _ 2 _ (by decide)
  have hb3 : me < 65536 := n3 ▸ num_bd bs _ 2 _ (by decide)
  have hb4 : ck < 65536 := n4 ▸ num_bd bs _ 2 _ (by decide)
  have hb5 : dt < 65536 := n5 ▸ num_bd bs _ 2 _ (by decide)
  have hb6 : cr < 4294967296 := n6 ▸ num_bd bs _ 4 _ (by decide)
  have hb7 : pk < 4294967296 := n7 ▸ num_bd bs _ 4 _ (by decide)
  have hb8 : sz < 4294967296 := n8 ▸ num_bd bs _ 4 _ (by decide)
  have hb9 : ln < 65536 := n9 ▸ num_bd bs _ 2 _ (by decide)
  have hb10 : pl < 4294967296 := n10 ▸ num_bd bs _ 4 _ (by decide)
  obtain ⟨HN1⟩ : Nonempty (Hid (∀ w', Bs w' S (some ⟨b, off, none⟩) n bs → Calls Tryd.prog 30 #[.slice (some ⟨b, off, none⟩) n c, .int .i64 6, .int .i64 2] w' fun e w'' => e = .returned (.int .i64 (vr : Nat)) ∧ w' = w'')) := ⟨Lib.hid fun w' h => rnum_any _ n c bs S 6 2 vr w' h (by omega) (by decide) (by decide) hn hnc n1 (by omega)⟩
  obtain ⟨HN2⟩ : Nonempty (Hid (∀ w', Bs w' S (some ⟨b, off, none⟩) n bs → Calls Tryd.prog 30 #[.slice (some ⟨b, off, none⟩) n c, .int .i64 8, .int .i64 2] w' fun e w'' => e = .returned (.int .i64 (fl : Nat)) ∧ w' = w'')) := ⟨Lib.hid fun w' h => rnum_any _ n c bs S 8 2 fl w' h (by omega) (by decide) (by decide) hn hnc n2 (by omega)⟩
  obtain ⟨HN3⟩ : Nonempty (Hid (∀ w', Bs w' S (some ⟨b, off, none⟩) n bs → Calls Tryd.prog 30 #[.slice (some ⟨b, off, none⟩) n c, .int .i64 10, .int .i64 2] w' fun e w'' => e = .returned (.int .i64 (me : Nat)) ∧ w' = w'')) := ⟨Lib.hid fun w' h => rnum_any _ n c bs S 10 2 me w' h (by omega) (by decide) (by decide) hn hnc n3 (by omega)⟩
  obtain ⟨HN4⟩ : Nonempty (Hid (∀ w', Bs w' S (some ⟨b, off, none⟩) n bs → Calls Tryd.prog 30 #[.slice (some ⟨b, off, none⟩) n c, .int .i64 12, .int .i64 2] w' fun e w'' => e = .returned (.int .i64 (ck : Nat)) ∧ w' = w'')) := ⟨Lib.hid fun w' h => rnum_any _ n c bs S 12 2 ck w' h (by omega) (by decide) (by decide) hn hnc n4 (by omega)⟩
  obtain ⟨HN5⟩ : Nonempty (Hid (∀ w', Bs w' S (some ⟨b, off, none⟩) n bs → Calls Tryd.prog 30 #[.slice (some ⟨b, off, none⟩) n c, .int .i64 14, .int .i64 2] w' fun e w'' => e = .returned (.int .i64 (dt : Nat)) ∧ w' = w'')) := ⟨Lib.hid fun w' h => rnum_any _ n c bs S 14 2 dt w' h (by omega) (by decide) (by decide) hn hnc n5 (by omega)⟩
  obtain ⟨HN6⟩ : Nonempty (Hid (∀ w', Bs w' S (some ⟨b, off, none⟩) n bs → Calls Tryd.prog 30 #[.slice (some ⟨b, off, none⟩) n c, .int .i64 16, .int .i64 4] w' fun e w'' => e = .returned (.int .i64 (cr : Nat)) ∧ w' = w'')) := ⟨Lib.hid fun w' h => rnum_any _ n c bs S 16 4 cr w' h (by omega) (by decide) (by decide) hn hnc n6 (by omega)⟩
  obtain ⟨HN7⟩ : Nonempty (Hid (∀ w', Bs w' S (some ⟨b, off, none⟩) n bs → Calls Tryd.prog 30 #[.slice (some ⟨b, off, none⟩) n c, .int .i64 20, .int .i64 4] w' fun e w'' => e = .returned (.int .i64 (pk : Nat)) ∧ w' = w'')) := ⟨Lib.hid fun w' h => rnum_any _ n c bs S 20 4 pk w' h (by omega) (by decide) (by decide) hn hnc n7 (by omega)⟩
  obtain ⟨HN8⟩ : Nonempty (Hid (∀ w', Bs w' S (some ⟨b, off, none⟩) n bs → Calls Tryd.prog 30 #[.slice (some ⟨b, off, none⟩) n c, .int .i64 24, .int .i64 4] w' fun e w'' => e = .returned (.int .i64 (sz : Nat)) ∧ w' = w'')) := ⟨Lib.hid fun w' h => rnum_any _ n c bs S 24 4 sz w' h (by omega) (by decide) (by decide) hn hnc n8 (by omega)⟩
  obtain ⟨HN9⟩ : Nonempty (Hid (∀ w', Bs w' S (some ⟨b, off, none⟩) n bs → Calls Tryd.prog 30 #[.slice (some ⟨b, off, none⟩) n c, .int .i64 28, .int .i64 2] w' fun e w'' => e = .returned (.int .i64 (ln : Nat)) ∧ w' = w'')) := ⟨Lib.hid fun w' h => rnum_any _ n c bs S 28 2 ln w' h (by omega) (by decide) (by decide) hn hnc n9 (by omega)⟩
  obtain ⟨HN10⟩ : Nonempty (Hid (∀ w', Bs w' S (some ⟨b, off, none⟩) n bs → Calls Tryd.prog 30 #[.slice (some ⟨b, off, none⟩) n c, .int .i64 42, .int .i64 4] w' fun e w'' => e = .returned (.int .i64 (pl : Nat)) ∧ w' = w'')) := ⟨Lib.hid fun w' h => rnum_any _ n c bs S 42 4 pl w' h (by omega) (by decide) (by decide) hn hnc n10 (by omega)⟩
  obtain ⟨HDc⟩ : Nonempty (Hid (∀ w', Calls Tryd.prog 31 #[.int .i64 (dt : Nat), .int .i64 (ck : Nat)] w' fun e w'' => e = .returned (.tuple #[tm ty tmo td th tmi ts, .bool false]) ∧ Below w'.heap.size w' w'')) := ⟨Lib.hid fun w' => by
    have h := rdecode_any (dt : Int) (ck : Int) w' false htk (by omega) (by omega) (by omega) (by omega)
    rw [htm] at h
    exact h⟩
  obtain ⟨w0, hw0⟩ : ∃ w0, (w.alloc (.cells #[.string ⟨#[]⟩, .int .i64 0, .int .i64 0, .int .i64 0, .int .i64 0, .int .i64 0, .int .i64 0, .int .i64 0, .int .u32 0, .int .i64 0, .int .i64 0, .bool false, .bool false] 30)).alloc (.cells #[.string ⟨#[]⟩, .int .i64 0, .int .i64 0, .int .i64 0, .int .i64 0, .int .i64 0, .int .i64 0, .int .i64 0, .int .u32 0, .int .i64 0, .int .i64 0, .bool false, .bool false] 30) = w0 := ⟨_, rfl⟩
  have HB : Hid (Below w.heap.size w w0) := Lib.hid (by rw [← hw0]; exact ((Below.refl _ _).alloc (Nat.le_refl _) _).alloc (by simp) _)
  have HZ : Hid (Whole w0 w.heap.size 30 #[.string ⟨#[]⟩, .int .i64 0, .int .i64 0, .int .i64 0, .int .i64 0, .int .i64 0, .int .i64 0, .int .i64 0, .int .u32 0, .int .i64 0, .int .i64 0, .bool false, .bool false]) := Lib.hid (by rw [← hw0]; exact (Whole.new w 30 _ rfl).alloc _)
  have HU : Hid (Whole w0 (w.heap.size + 1) 30 #[.string ⟨#[]⟩, .int .i64 0, .int .i64 0, .int .i64 0, .int .i64 0, .int .i64 0, .int .i64 0, .int .i64 0, .int .u32 0, .int .i64 0, .int .i64 0, .bool false, .bool false]) := Lib.hid (by rw [← hw0]; exact Whole.new _ 30 _ (by simp))
  have HBS : Hid (Bs w0 S (some ⟨b, off, none⟩) n bs) := Lib.hid (by rw [← hw0]; exact (hB.alloc _).alloc _)
  have HE0 := Lib.hid hw0
  have hlt0 := HZ.out.lt
  have hltU := HU.out.lt
  clear hw0
  have HS := Lib.hid hS
  have HNM := Lib.hid hnm
  have d1 : decide (n < 46) = false := decide_eq_false (by omega)
  have d1' : decide ((n : Int) < 46) = false := decide_eq_false (by omega)
  obtain ⟨m3, hm3⟩ : ∃ m, n - 46 = m := ⟨_, rfl⟩
  have e1 : IntKind.i64.wrap ((n : Int) - 46) = (m3 : Int) := by rw [IntWalk.i64_in _ (by omega)]; omega
  have e1' : ((n : Int) - 46) = (m3 : Int) := by omega
  have d2 : decide ((m3 : Int) < (ln : Int)) = false := decide_eq_false (by omega)
  have d2' : decide (m3 < ln) = false := decide_eq_false (by omega)
  obtain ⟨M, hM⟩ : ∃ M, 46 + ln = M := ⟨_, rfl⟩
  have k1 : IntKind.i64.wrap (46 + (ln : Int)) = (M : Int) := by rw [IntWalk.i64_in _ (by omega)]; omega
  have k1' : (46 : Int) + (ln : Int) = (M : Int) := by omega
  have k2 : (M : Int) ≤ (c : Int) := by omega
  have k3 : (46 : Int) ≤ (M : Int) := by omega
  have k4 : M - 46 = ln := by omega
  have v1 : ((vr : Int) == 45) = true := by rw [← hwd]; exact natbeq vr 45
  have v2 : Int.tdiv (fl : Int) 8 = (f8 : Int) := by rw [← hf8]; rfl
  have v3 : Int.tmod (f8 : Int) 2 = (f2 : Int) := by rw [← hf2]; rfl
  have v4 : ((f2 : Int) == 1) = lt := by rw [← hlt]; exact natbeq f2 1
  have w8 : IntKind.i64.wrap (f8 : Int) = (f8 : Int) := IntWalk.i64_in _ (by omega)
  have w2 : IntKind.i64.wrap (f2 : Int) = (f2 : Int) := IntWalk.i64_in _ (by omega)
  have wc : IntKind.u32.wrap (cr : Int) = (cr : Int) := IntWalk.u32_in _ (by omega)
  have z8b : z8 ≤ 8589934592 := n11 ▸ hno 0 (by omega)
  have p8b : p8 ≤ 8589934592 := n12 ▸ hno 1 (by omega)
  have at8b : at8 ≤ 8589934592 := n13 ▸ hno 2 (by omega)
  obtain ⟨a50, h50⟩ : ∃ a, ln + 50 = a := ⟨_, rfl⟩
  obtain ⟨a58, h58⟩ : ∃ a, ln + 58 = a := ⟨_, rfl⟩
  obtain ⟨a66, h66⟩ : ∃ a, ln + 66 = a := ⟨_, rfl⟩
  obtain ⟨a74, h74'⟩ : ∃ a, ln + 74 = a := ⟨_, rfl⟩
  rw [h50] at n11
  rw [h58] at n12
  rw [h66] at n13
  have ia50 : IntKind.i64.wrap (50 + (ln : Int)) = (a50 : Int) := by rw [IntWalk.i64_in _ (by omega)]; omega
  have ja50 : (50 : Int) + (ln : Int) = (a50 : Int) := by omega
  have ia58 : IntKind.i64.wrap (58 + (ln : Int)) = (a58 : Int) := by rw [IntWalk.i64_in _ (by omega)]; omega
  have ja58 : (58 : Int) + (ln : Int) = (a58 : Int) := by omega
  have ia66 : IntKind.i64.wrap (66 + (ln : Int)) = (a66 : Int) := by rw [IntWalk.i64_in _ (by omega)]; omega
  have ja66 : (66 : Int) + (ln : Int) = (a66 : Int) := by omega
  have ia74 : IntKind.i64.wrap (74 + (ln : Int)) = (a74 : Int) := by rw [IntWalk.i64_in _ (by omega)]; omega
  have ja74 : (74 : Int) + (ln : Int) = (a74 : Int) := by omega
  have p1 : decide ((n : Int) < (a74 : Int)) = false := decide_eq_false (by omega)
  have p1' : decide (n < a74) = false := decide_eq_false (by omega)
  have HA5 : Hid (a50 + 24 ≤ n ∧ a58 = a50 + 8 ∧ a66 = a50 + 16) := Lib.hid (by omega)
  obtain ⟨HG⟩ : Nonempty (Hid (∀ (o v : Nat) w', Bs w' S (some ⟨b, off, none⟩) n bs → o + 8 ≤ n → num ((bs.drop o).take 8) = v → ∀ C, Calls Tryd.prog 32 #[.slice (some ⟨b, off + o, none⟩) 8 C] w' fun e w'' => e = .returned (.int .u64 (v : Nat)) ∧ w' = w'')) := ⟨Lib.hid fun o v w' h ho hv C => by
    have h2 := number_any (some ⟨b, off + o, none⟩) 8 C ((bs.drop o).take 8) S w' ((h.drop (k := o) (by omega)).take (by omega)) (by decide)
    rw [hv] at h2
    exact h2⟩
  rw [h50] at hno
  have HNO := Lib.hid hno
  obtain ⟨HN11⟩ : Nonempty (Hid (∀ w', Bs w' S (some ⟨b, off, none⟩) n bs → Calls Tryd.prog 30 #[.slice (some ⟨b, off, none⟩) n c, .int .i64 (a50 : Nat), .int .i64 8] w' fun e w'' => e = .returned (.int .i64 (z8 : Nat)) ∧ w' = w'')) := ⟨Lib.hid fun w' h => rnum_any _ n c bs S a50 8 z8 w' h (by omega) (by decide) (by decide) hn hnc n11 (by omega)⟩
  obtain ⟨HN12⟩ : Nonempty (Hid (∀ w', Bs w' S (some ⟨b, off, none⟩) n bs → Calls Tryd.prog 30 #[.slice (some ⟨b, off, none⟩) n c, .int .i64 (a58 : Nat), .int .i64 8] w' fun e w'' => e = .returned (.int .i64 (p8 : Nat)) ∧ w' = w'')) := ⟨Lib.hid fun w' h => rnum_any _ n c bs S a58 8 p8 w' h (by omega) (by decide) (by decide) hn hnc n12 (by omega)⟩
  obtain ⟨HN13⟩ : Nonempty (Hid (∀ w', Bs w' S (some ⟨b, off, none⟩) n bs → Calls Tryd.prog 30 #[.slice (some ⟨b, off, none⟩) n c, .int .i64 (a66 : Nat), .int .i64 8] w' fun e w'' => e = .returned (.int .i64 (at8 : Nat)) ∧ w' = w'')) := ⟨Lib.hid fun w' h => rnum_any _ n c bs S a66 8 at8 w' h (by omega) (by decide) (by decide) hn hnc n13 (by omega)⟩
  clear n11 n12 n13 h50 h58 h66 h74' h74 hno
  clear hB n1 n2 n3 n4 n5 n6 n7 n8 n9 n10 hS hnm htm htk hf8 hf2 hlt hwd
  go_enter Tryd.func13, Tryd.ntmps13
  go_wp2_with fail
  rw [HE0.out]
  refine (HN9.out _ HBS.out).mono ?_
  rintro e w1 ⟨rfl, rfl⟩
  go_wp2_with fail
  refine (HN9.out _ HBS.out).mono ?_
  rintro e w1 ⟨rfl, rfl⟩
  go_wp2_with fail
  refine (HN5.out _ HBS.out).mono ?_
  rintro e w1 ⟨rfl, rfl⟩
  go_wp2_with fail
  refine (HN4.out _ HBS.out).mono ?_
  rintro e w1 ⟨rfl, rfl⟩
  go_wp2_with fail
  refine (HDc.out _).mono ?_
  rintro e w1 ⟨rfl, hb1⟩
  have HB := Lib.hid (HB.out.trans (hb1.mono HB.out.size))
  have HZ := Lib.hid (HZ.out.below' hb1)
  have HU := Lib.hid (HU.out.below' hb1)
  have HBS := Lib.hid (HBS.out.below hb1)
  have hlt1 := HU.out.lt
  clear hb1
  go_wp2_with fail
  obtain ⟨w2, hw2⟩ : ∃ w2, w1.alloc (.cells #[.int .i64 ty, .int .i64 tmo, .int .i64 td, .int .i64 th, .int .i64 tmi, .int .i64 ts] 23) = w2 := ⟨_, rfl⟩
  have HQ : Hid (Whole w2 w1.heap.size 23 #[.int .i64 ty, .int .i64 tmo, .int .i64 td, .int .i64 th, .int .i64 tmi, .int .i64 ts]) := Lib.hid (hw2 ▸ Whole.new w1 23 _ rfl)
  have HB := Lib.hid (show Below w.heap.size w w2 from hw2 ▸ HB.out.alloc HB.out.size _)
  have HZ := Lib.hid (show Whole w2 w.heap.size 30 _ from hw2 ▸ HZ.out.alloc _)
  have HU := Lib.hid (show Whole w2 (w.heap.size + 1) 30 _ from hw2 ▸ HU.out.alloc _)
  have HBS := Lib.hid (show Bs w2 S _ n bs from hw2 ▸ HBS.out.alloc _)
  have hlt2 := HU.out.lt
  have hQ1 : w.heap.size + 1 < w1.heap.size := hlt1
  have hQ2 := HQ.out.lt
  rw [hw2]
  generalize w1.heap.size = q9 at HQ hw2 hlt1 hQ1 hQ2 ⊢
  clear hw2 hlt1
  have q0 := HQ.out.cell 0
  have q1 := HQ.out.cell 1
  have q2 := HQ.out.cell 2
  have q3 := HQ.out.cell 3
  have q4 := HQ.out.cell 4
  have q5 := HQ.out.cell 5
  have fq0 := HQ.out.free 0
  have fq1 := HQ.out.free 1
  have fq2 := HQ.out.free 2
  have fq3 := HQ.out.free 3
  have fq4 := HQ.out.free 4
  have fq5 := HQ.out.free 5
  simp at q0 q1 q2 q3 q4 q5
  obtain ⟨C9, hC9⟩ : ∃ C, c - 46 = C := ⟨_, rfl⟩
  have HSL : Hid (Bs w2 S (some ⟨b, off + 46, none⟩) ln ((bs.drop 46).take ln)) := Lib.hid ((HBS.out.drop (k := 46) (by omega)).take (k := ln) (by omega))
  have kn := fun mm => str_val (w := w2.over mm) C9 nm (HSL.out.below (World.over_below w2 mm)) HNM.out
  have HC9 := Lib.hid hC9
  refine wp_region_free_tail2 25 [7, 9, 12, 14, 16, 19, 23] (by kernel_rfl) (by kernel_rfl) (by kernel_rfl) (by kernel_rfl) ?_
  simp only [List.take_succ_cons, List.take_zero, List.drop_succ_cons, List.drop_zero]
  iterate 7 (first | ((with_reducible refine vfree_skip rfl ?_ ?_); (focus rfl); intro K hK; go_big_quiet_op; go_big_quiet_on) | ((with_reducible refine vfree_hard ?_ ?_ ?_); (focus rfl); (focus rfl); intro K hK; go_big_quiet_op; go_big_quiet_on))
  refine vfree_one (.int .i64 (me : Nat)) rfl rfl rfl (fun w' hw' => ?_) ?_
  · have hb := hw'.1.below
    go_simp
    exact Calls.one_same ((HN3.out w' (HBS.out.below hb)).mono fun _ _ h => ⟨h.1, h.2⟩)
  intro K hK
  go_big_quiet_op
  go_big_quiet_on
  iterate 1 (first | ((with_reducible refine vfree_skip rfl ?_ ?_); (focus rfl); intro K hK; go_big_quiet_op; go_big_quiet_on) | ((with_reducible refine vfree_hard ?_ ?_ ?_); (focus rfl); (focus rfl); intro K hK; go_big_quiet_op; go_big_quiet_on))
  refine vfree_one (.int .i64 (cr : Nat)) rfl rfl rfl (fun w' hw' => ?_) ?_
  · have hb := hw'.1.below
    go_simp
    exact Calls.one_same ((HN6.out w' (HBS.out.below hb)).mono fun _ _ h => ⟨h.1, h.2⟩)
  intro K hK
  go_big_quiet_op
  go_big_quiet_on
  iterate 2 (first | ((with_reducible refine vfree_skip rfl ?_ ?_); (focus rfl); intro K hK; go_big_quiet_op; go_big_quiet_on) | ((with_reducible refine vfree_hard ?_ ?_ ?_); (focus rfl); (focus rfl); intro K hK; go_big_quiet_op; go_big_quiet_on))
  refine vfree_one (.int .i64 (pk : Nat)) rfl rfl rfl (fun w' hw' => ?_) ?_
  · have hb := hw'.1.below
    go_simp
    exact Calls.one_same ((HN7.out w' (HBS.out.below hb)).mono fun _ _ h => ⟨h.1, h.2⟩)
  intro K hK
  go_big_quiet_op
  go_big_quiet_on
  iterate 1 (first | ((with_reducible refine vfree_skip rfl ?_ ?_); (focus rfl); intro K hK; go_big_quiet_op; go_big_quiet_on) | ((with_reducible refine vfree_hard ?_ ?_ ?_); (focus rfl); (focus rfl); intro K hK; go_big_quiet_op; go_big_quiet_on))
  refine vfree_one (.int .i64 (sz : Nat)) rfl rfl rfl (fun w' hw' => ?_) ?_
  · have hb := hw'.1.below
    go_simp
    exact Calls.one_same ((HN8.out w' (HBS.out.below hb)).mono fun _ _ h => ⟨h.1, h.2⟩)
  intro K hK
  go_big_quiet_op
  go_big_quiet_on
  iterate 1 (first | ((with_reducible refine vfree_skip rfl ?_ ?_); (focus rfl); intro K hK; go_big_quiet_op; go_big_quiet_on) | ((with_reducible refine vfree_hard ?_ ?_ ?_); (focus rfl); (focus rfl); intro K hK; go_big_quiet_op; go_big_quiet_on))
  refine vfree_one (.int .i64 (vr : Nat)) rfl rfl rfl (fun w' hw' => ?_) ?_
  · have hb := hw'.1.below
    go_simp
    exact Calls.one_same ((HN1.out w' (HBS.out.below hb)).mono fun _ _ h => ⟨h.1, h.2⟩)
  intro K hK
  go_big_quiet_op
  go_big_quiet_on
  iterate 2 (first | ((with_reducible refine vfree_skip rfl ?_ ?_); (focus rfl); intro K hK; go_big_quiet_op; go_big_quiet_on) | ((with_reducible refine vfree_hard ?_ ?_ ?_); (focus rfl); (focus rfl); intro K hK; go_big_quiet_op; go_big_quiet_on))
  refine vfree_one (.int .i64 (fl : Nat)) rfl rfl rfl (fun w' hw' => ?_) ?_
  · have hb := hw'.1.below
    go_simp
    exact Calls.one_same ((HN2.out w' (HBS.out.below hb)).mono fun _ _ h => ⟨h.1, h.2⟩)
  intro K hK
  go_big_quiet_op
  go_big_quiet_on
  iterate 3 (first | ((with_reducible refine vfree_skip rfl ?_ ?_); (focus rfl); intro K hK; go_big_quiet_op; go_big_quiet_on) | ((with_reducible refine vfree_hard ?_ ?_ ?_); (focus rfl); (focus rfl); intro K hK; go_big_quiet_op; go_big_quiet_on))
  refine vfree_one (.agg #[.string nm, .int .i64 ty, .int .i64 tmo, .int .i64 td, .int .i64 th, .int .i64 tmi, .int .i64 ts, .int .i64 (me : Nat), .int .u32 (cr : Nat), .int .i64 (pk : Nat), .int .i64 (sz : Nat), .bool true, .bool lt]) rfl rfl rfl (fun w' hw' => ?_) ?_
  · clear hw'
    go_simp
    exact ⟨Below.refl _ _, rfl⟩
  intro K hK
  go_big_quiet_op
  go_big_quiet_on
  refine vfree_soft (ι := Nat) (fun i => .pointer (some ⟨i, 0, none⟩)) (fun i w' => w2.heap.size ≤ i ∧ Whole w' i 30 #[.string ⟨#[]⟩, .int .i64 0, .int .i64 0, .int .i64 0, .int .i64 0, .int .i64 0, .int .i64 0, .int .i64 0, .int .u32 0, .int .i64 0, .int .i64 0, .bool false, .bool false]) rfl rfl rfl (fun _ => fun _ _ h he => ⟨h.1, h.2.below' he⟩) (fun w' hw' => ?_) (fun T => ?_)
  · have hb := hw'.1.below
    clear hw'
    go_simp
    exact ⟨(Below.refl _ _).alloc (Nat.le_refl _) _, w'.heap.size, rfl, hb.size, Whole.new w' 30 _ rfl⟩
  intro K hK
  go_big_quiet_op
  go_big_quiet_on
  refine vfree_nil ?_
  intro w4 hb4 hk4
  obtain ⟨hT, hX⟩ := (hk4 24).1
  have HB := Lib.hid (HB.out.trans (hb4.mono HB.out.size))
  have HX := Lib.hid hX
  have HZ := Lib.hid (HZ.out.below' hb4)
  have HU := Lib.hid (HU.out.below' hb4)
  have HBS := Lib.hid (HBS.out.below hb4)
  have hwT : w.heap.size + 1 < T := by omega
  clear hk4 hb4 hX
  have x0 := HX.out.cell 0
  have x1 := HX.out.cell 1
  have x2 := HX.out.cell 2
  have x3 := HX.out.cell 3
  have x4 := HX.out.cell 4
  have x5 := HX.out.cell 5
  have x6 := HX.out.cell 6
  have x7 := HX.out.cell 7
  have x8 := HX.out.cell 8
  have x9 := HX.out.cell 9
  have x10 := HX.out.cell 10
  have x11 := HX.out.cell 11
  have x12 := HX.out.cell 12
  have fx0 := HX.out.free 0
  have fx1 := HX.out.free 1
  have fx2 := HX.out.free 2
  have fx3 := HX.out.free 3
  have fx4 := HX.out.free 4
  have fx5 := HX.out.free 5
  have fx6 := HX.out.free 6
  have fx7 := HX.out.free 7
  have fx8 := HX.out.free 8
  have fx9 := HX.out.free 9
  have fx10 := HX.out.free 10
  have fx11 := HX.out.free 11
  have fx12 := HX.out.free 12
  simp at x0 x1 x2 x3 x4 x5 x6 x7 x8 x9 x10 x11 x12
  have hlX := HX.out.lt
  go_wp2_with fail
  have HX := Lib.hid (HX.out.put 0 (.string nm) rfl)
  have HBS := Lib.hid (HBS.out.put (p := ⟨T, 0, none⟩) (.string nm) (fun b hb => by have := HS.out b hb; show b ≠ T; omega))
  have HZ := Lib.hid (HZ.out.other (p := ⟨T, 0, none⟩) (by show w.heap.size ≠ T; omega) (.string nm))
  have HU := Lib.hid (HU.out.other (p := ⟨T, 0, none⟩) (by show w.heap.size + 1 ≠ T; omega) (.string nm))
  have HB := Lib.hid (HB.out.setCell (p := ⟨T, 0, none⟩) (by show w.heap.size ≤ T; omega) (.string nm))
  have HX := Lib.hid (HX.out.put 1 (.int .i64 ty) rfl)
  have HBS := Lib.hid (HBS.out.put (p := ⟨T, 1, none⟩) (.int .i64 ty) (fun b hb => by have := HS.out b hb; show b ≠ T; omega))
  have HZ := Lib.hid (HZ.out.other (p := ⟨T, 1, none⟩) (by show w.heap.size ≠ T; omega) (.int .i64 ty))
  have HU := Lib.hid (HU.out.other (p := ⟨T, 1, none⟩) (by show w.heap.size + 1 ≠ T; omega) (.int .i64 ty))
  have HB := Lib.hid (HB.out.setCell (p := ⟨T, 1, none⟩) (by show w.heap.size ≤ T; omega) (.int .i64 ty))
  have HX := Lib.hid (HX.out.put 2 (.int .i64 tmo) rfl)
  have HBS := Lib.hid (HBS.out.put (p := ⟨T, 2, none⟩) (.int .i64 tmo) (fun b hb => by have := HS.out b hb; show b ≠ T; omega))
  have HZ := Lib.hid (HZ.out.other (p := ⟨T, 2, none⟩) (by show w.heap.size ≠ T; omega) (.int .i64 tmo))
  have HU := Lib.hid (HU.out.other (p := ⟨T, 2, none⟩) (by show w.heap.size + 1 ≠ T; omega) (.int .i64 tmo))
  have HB := Lib.hid (HB.out.setCell (p := ⟨T, 2, none⟩) (by show w.heap.size ≤ T; omega) (.int .i64 tmo))
  have HX := Lib.hid (HX.out.put 3 (.int .i64 td) rfl)
  have HBS := Lib.hid (HBS.out.put (p := ⟨T, 3, none⟩) (.int .i64 td) (fun b hb => by have := HS.out b hb; show b ≠ T; omega))
  have HZ := Lib.hid (HZ.out.other (p := ⟨T, 3, none⟩) (by show w.heap.size ≠ T; omega) (.int .i64 td))
  have HU := Lib.hid (HU.out.other (p := ⟨T, 3, none⟩) (by show w.heap.size + 1 ≠ T; omega) (.int .i64 td))
  have HB := Lib.hid (HB.out.setCell (p := ⟨T, 3, none⟩) (by show w.heap.size ≤ T; omega) (.int .i64 td))
  have HX := Lib.hid (HX.out.put 4 (.int .i64 th) rfl)
  have HBS := Lib.hid (HBS.out.put (p := ⟨T, 4, none⟩) (.int .i64 th) (fun b hb => by have := HS.out b hb; show b ≠ T; omega))
  have HZ := Lib.hid (HZ.out.other (p := ⟨T, 4, none⟩) (by show w.heap.size ≠ T; omega) (.int .i64 th))
  have HU := Lib.hid (HU.out.other (p := ⟨T, 4, none⟩) (by show w.heap.size + 1 ≠ T; omega) (.int .i64 th))
  have HB := Lib.hid (HB.out.setCell (p := ⟨T, 4, none⟩) (by show w.heap.size ≤ T; omega) (.int .i64 th))
  have HX := Lib.hid (HX.out.put 5 (.int .i64 tmi) rfl)
  have HBS := Lib.hid (HBS.out.put (p := ⟨T, 5, none⟩) (.int .i64 tmi) (fun b hb => by have := HS.out b hb; show b ≠ T; omega))
  have HZ := Lib.hid (HZ.out.other (p := ⟨T, 5, none⟩) (by show w.heap.size ≠ T; omega) (.int .i64 tmi))
  have HU := Lib.hid (HU.out.other (p := ⟨T, 5, none⟩) (by show w.heap.size + 1 ≠ T; omega) (.int .i64 tmi))
  have HB := Lib.hid (HB.out.setCell (p := ⟨T, 5, none⟩) (by show w.heap.size ≤ T; omega) (.int .i64 tmi))
  have HX := Lib.hid (HX.out.put 6 (.int .i64 ts) rfl)
  have HBS := Lib.hid (HBS.out.put (p := ⟨T, 6, none⟩) (.int .i64 ts) (fun b hb => by have := HS.out b hb; show b ≠ T; omega))
  have HZ := Lib.hid (HZ.out.other (p := ⟨T, 6, none⟩) (by show w.heap.size ≠ T; omega) (.int .i64 ts))
  have HU := Lib.hid (HU.out.other (p := ⟨T, 6, none⟩) (by show w.heap.size + 1 ≠ T; omega) (.int .i64 ts))
  have HB := Lib.hid (HB.out.setCell (p := ⟨T, 6, none⟩) (by show w.heap.size ≤ T; omega) (.int .i64 ts))
  have HX := Lib.hid (HX.out.put 7 (.int .i64 (me : Nat)) rfl)
  have HBS := Lib.hid (HBS.out.put (p := ⟨T, 7, none⟩) (.int .i64 (me : Nat)) (fun b hb => by have := HS.out b hb; show b ≠ T; omega))
  have HZ := Lib.hid (HZ.out.other (p := ⟨T, 7, none⟩) (by show w.heap.size ≠ T; omega) (.int .i64 (me : Nat)))
  have HU := Lib.hid (HU.out.other (p := ⟨T, 7, none⟩) (by show w.heap.size + 1 ≠ T; omega) (.int .i64 (me : Nat)))
  have HB := Lib.hid (HB.out.setCell (p := ⟨T, 7, none⟩) (by show w.heap.size ≤ T; omega) (.int .i64 (me : Nat)))
  have HX := Lib.hid (HX.out.put 8 (.int .u32 (cr : Nat)) rfl)
  have HBS := Lib.hid (HBS.out.put (p := ⟨T, 8, none⟩) (.int .u32 (cr : Nat)) (fun b hb => by have := HS.out b hb; show b ≠ T; omega))
  have HZ := Lib.hid (HZ.out.other (p := ⟨T, 8, none⟩) (by show w.heap.size ≠ T; omega) (.int .u32 (cr : Nat)))
  have HU := Lib.hid (HU.out.other (p := ⟨T, 8, none⟩) (by show w.heap.size + 1 ≠ T; omega) (.int .u32 (cr : Nat)))
  have HB := Lib.hid (HB.out.setCell (p := ⟨T, 8, none⟩) (by show w.heap.size ≤ T; omega) (.int .u32 (cr : Nat)))
  have HX := Lib.hid (HX.out.put 9 (.int .i64 (pk : Nat)) rfl)
  have HBS := Lib.hid (HBS.out.put (p := ⟨T, 9, none⟩) (.int .i64 (pk : Nat)) (fun b hb => by have := HS.out b hb; show b ≠ T; omega))
  have HZ := Lib.hid (HZ.out.other (p := ⟨T, 9, none⟩) (by show w.heap.size ≠ T; omega) (.int .i64 (pk : Nat)))
  have HU := Lib.hid (HU.out.other (p := ⟨T, 9, none⟩) (by show w.heap.size + 1 ≠ T; omega) (.int .i64 (pk : Nat)))
  have HB := Lib.hid (HB.out.setCell (p := ⟨T, 9, none⟩) (by show w.heap.size ≤ T; omega) (.int .i64 (pk : Nat)))
  have HX := Lib.hid (HX.out.put 10 (.int .i64 (sz : Nat)) rfl)
  have HBS := Lib.hid (HBS.out.put (p := ⟨T, 10, none⟩) (.int .i64 (sz : Nat)) (fun b hb => by have := HS.out b hb; show b ≠ T; omega))
  have HZ := Lib.hid (HZ.out.other (p := ⟨T, 10, none⟩) (by show w.heap.size ≠ T; omega) (.int .i64 (sz : Nat)))
  have HU := Lib.hid (HU.out.other (p := ⟨T, 10, none⟩) (by show w.heap.size + 1 ≠ T; omega) (.int .i64 (sz : Nat)))
  have HB := Lib.hid (HB.out.setCell (p := ⟨T, 10, none⟩) (by show w.heap.size ≤ T; omega) (.int .i64 (sz : Nat)))
  have HX := Lib.hid (HX.out.put 11 (.bool true) rfl)
  have HBS := Lib.hid (HBS.out.put (p := ⟨T, 11, none⟩) (.bool true) (fun b hb => by have := HS.out b hb; show b ≠ T; omega))
  have HZ := Lib.hid (HZ.out.other (p := ⟨T, 11, none⟩) (by show w.heap.size ≠ T; omega) (.bool true))
  have HU := Lib.hid (HU.out.other (p := ⟨T, 11, none⟩) (by show w.heap.size + 1 ≠ T; omega) (.bool true))
  have HB := Lib.hid (HB.out.setCell (p := ⟨T, 11, none⟩) (by show w.heap.size ≤ T; omega) (.bool true))
  have HX := Lib.hid (HX.out.put 12 (.bool lt) rfl)
  have HBS := Lib.hid (HBS.out.put (p := ⟨T, 12, none⟩) (.bool lt) (fun b hb => by have := HS.out b hb; show b ≠ T; omega))
  have HZ := Lib.hid (HZ.out.other (p := ⟨T, 12, none⟩) (by show w.heap.size ≠ T; omega) (.bool lt))
  have HU := Lib.hid (HU.out.other (p := ⟨T, 12, none⟩) (by show w.heap.size + 1 ≠ T; omega) (.bool lt))
  have HB := Lib.hid (HB.out.setCell (p := ⟨T, 12, none⟩) (by show w.heap.size ≤ T; omega) (.bool lt))
  generalize (((((((((((((w4.setCell ⟨T, 0, none⟩ (.string nm)).setCell ⟨T, 1, none⟩ (.int .i64 ty)).setCell ⟨T, 2, none⟩ (.int .i64 tmo)).setCell ⟨T, 3, none⟩ (.int .i64 td)).setCell ⟨T, 4, none⟩ (.int .i64 th)).setCell ⟨T, 5, none⟩ (.int .i64 tmi)).setCell ⟨T, 6, none⟩ (.int .i64 ts)).setCell ⟨T, 7, none⟩ (.int .i64 (me : Nat))).setCell ⟨T, 8, none⟩ (.int .u32 (cr : Nat))).setCell ⟨T, 9, none⟩ (.int .i64 (pk : Nat))).setCell ⟨T, 10, none⟩ (.int .i64 (sz : Nat))).setCell ⟨T, 11, none⟩ (.bool true)).setCell ⟨T, 12, none⟩ (.bool lt)) = w8 at HX HBS HZ HU HB ⊢
  refine (HN10.out _ HBS.out).mono ?_
  rintro e w9 ⟨rfl, rfl⟩
  have hlX9 := HX.out.lt
  have x0 := HX.out.cell 0
  have x1 := HX.out.cell 1
  have x2 := HX.out.cell 2
  have x3 := HX.out.cell 3
  have x4 := HX.out.cell 4
  have x5 := HX.out.cell 5
  have x6 := HX.out.cell 6
  have x7 := HX.out.cell 7
  have x8 := HX.out.cell 8
  have x9 := HX.out.cell 9
  have x10 := HX.out.cell 10
  have x11 := HX.out.cell 11
  have x12 := HX.out.cell 12
  have fx0 := HX.out.free 0
  have fx1 := HX.out.free 1
  have fx2 := HX.out.free 2
  have fx3 := HX.out.free 3
  have fx4 := HX.out.free 4
  have fx5 := HX.out.free 5
  have fx6 := HX.out.free 6
  have fx7 := HX.out.free 7
  have fx8 := HX.out.free 8
  have fx9 := HX.out.free 9
  have fx10 := HX.out.free 10
  have fx11 := HX.out.free 11
  have fx12 := HX.out.free 12
  simp at x0 x1 x2 x3 x4 x5 x6 x7 x8 x9 x10 x11 x12
  go_wp2_with fail
  go_loopw [11] (fun i wr => ∃ (j : Nat), j ≤ 3 ∧ i = .int .i64 (j : Nat) ∧ wr = w8 ∧ Hid (∀ q, q < j → num ((bs.drop (a50 + 8 * q)).take 8) ≤ 8589934592)) (fun i _ => 3 - (intOf i).toNat)
  case atStart => exact ⟨0, by omega, rfl, rfl, Lib.hid (fun q hq => by omega)⟩
  case round =>
    obtain ⟨j, hj, rfl, rfl, HJ⟩ := hrel
    by_cases hlt3 : j < 3
    · have h1 : (0 : Int) ≤ (j : Int) := by omega
      have h2 : (j : Int) < 3 := by omega
      have h3 : ((j : Int)).toNat = j := by omega
      have hA5 := HA5.out
      obtain ⟨o, ho⟩ : ∃ o, a50 + 8 * j = o := ⟨_, rfl⟩
      obtain ⟨o8, ho8⟩ : ∃ o8, o + 8 = o8 := ⟨_, rfl⟩
      have m0 : IntKind.i64.wrap (8 * (j : Int)) = 8 * (j : Int) := IntWalk.i64_in _ (by omega)
      have m1 : IntKind.i64.wrap ((a50 : Int) + 8 * (j : Int)) = (o : Int) := by rw [IntWalk.i64_in _ (by omega)]; omega
      have m1' : (a50 : Int) + 8 * (j : Int) = (o : Int) := by omega
      have m2 : IntKind.i64.wrap ((a58 : Int) + 8 * (j : Int)) = (o8 : Int) := by rw [IntWalk.i64_in _ (by omega)]; omega
      have m2' : (a58 : Int) + 8 * (j : Int) = (o8 : Int) := by omega
      have m3' : (o : Int) ≤ (o8 : Int) := by omega
      have m4 : (o8 : Int) ≤ (c : Int) := by omega
      have m5 : o8 - o = 8 := by omega
      have m6 : ¬ c = o := by omega
      have HO := Lib.hid ho
      have HO8 : Hid (o + 8 ≤ n) := Lib.hid (by omega)
      obtain ⟨V, hV⟩ : ∃ V, num ((bs.drop o).take 8) = V := ⟨_, rfl⟩
      have HV := Lib.hid hV
      clear ho ho8 hV hA5
      go_wp2_with fail
      refine (HG.out o V _ HBS.out HO8.out HV.out _).mono ?_
      rintro e w9 ⟨rfl, rfl⟩
      by_cases hbg : 8589934592 < V
      · exact absurd hbg (by have := HNO.out j hlt3; rw [HO.out, HV.out] at this; omega)
      · have g1 : decide (8589934592 < V) = false := decide_eq_false hbg
        have g1' : decide ((8589934592 : Int) < (V : Int)) = false := decide_eq_false (by omega)
        have HJ2 : Hid (∀ q, q < j + 1 → num ((bs.drop (a50 + 8 * q)).take 8) ≤ 8589934592) := Lib.hid (fun q hq => by
          by_cases hqj : q = j
          · subst hqj
            rw [HO.out, HV.out]
            omega
          · exact HJ.out q (by omega))
        clear hbg
        go_wp2
        first
          | exact ⟨⟨j + 1, by omega, by simp, trivial, HJ2⟩, by show 3 - ((j : Int) + 1).toNat < 3 - ((j : Int)).toNat; omega⟩
          | exact ⟨⟨_, j + 1, by omega, by simp, trivial, HJ2⟩, by show 3 - ((j : Int) + 1).toNat < 3 - ((j : Int)).toNat; omega⟩
          | exact ⟨⟨_, _, j + 1, by omega, by simp, trivial, HJ2⟩, by show 3 - ((j : Int) + 1).toNat < 3 - ((j : Int)).toNat; omega⟩
          | exact ⟨⟨_, _, _, j + 1, by omega, by simp, trivial, HJ2⟩, by show 3 - ((j : Int) + 1).toNat < 3 - ((j : Int)).toNat; omega⟩
          | exact ⟨⟨_, _, _, _, j + 1, by omega, by simp, trivial, HJ2⟩, by show 3 - ((j : Int) + 1).toNat < 3 - ((j : Int)).toNat; omega⟩
          | exact ⟨⟨_, _, _, _, _, j + 1, by omega, by simp, trivial, HJ2⟩, by show 3 - ((j : Int) + 1).toNat < 3 - ((j : Int)).toNat; omega⟩
          | exact ⟨⟨_, _, _, _, _, _, j + 1, by omega, by simp, trivial, HJ2⟩, by show 3 - ((j : Int) + 1).toNat < 3 - ((j : Int)).toNat; omega⟩
          | exact ⟨⟨_, _, _, _, _, _, _, j + 1, by omega, by simp, trivial, HJ2⟩, by show 3 - ((j : Int) + 1).toNat < 3 - ((j : Int)).toNat; omega⟩
          | exact ⟨⟨_, _, _, _, _, _, _, _, j + 1, by omega, by simp, trivial, HJ2⟩, by show 3 - ((j : Int) + 1).toNat < 3 - ((j : Int)).toNat; omega⟩
          | exact ⟨⟨_, _, _, _, _, _, _, _, _, j + 1, by omega, by simp, trivial, HJ2⟩, by show 3 - ((j : Int) + 1).toNat < 3 - ((j : Int)).toNat; omega⟩
          | exact ⟨⟨_, _, _, _, _, _, _, _, _, _, j + 1, by omega, by simp, trivial, HJ2⟩, by show 3 - ((j : Int) + 1).toNat < 3 - ((j : Int)).toNat; omega⟩
          | exact ⟨⟨_, _, _, _, _, _, _, _, _, _, _, j + 1, by omega, by simp, trivial, HJ2⟩, by show 3 - ((j : Int) + 1).toNat < 3 - ((j : Int)).toNat; omega⟩
          | exact ⟨⟨_, _, _, _, _, _, _, _, _, _, _, _, j + 1, by omega, by simp, trivial, HJ2⟩, by show 3 - ((j : Int) + 1).toNat < 3 - ((j : Int)).toNat; omega⟩
          | exact ⟨⟨_, _, _, _, _, _, _, _, _, _, _, _, _, j + 1, by omega, by simp, trivial, HJ2⟩, by show 3 - ((j : Int) + 1).toNat < 3 - ((j : Int)).toNat; omega⟩
          | exact ⟨⟨_, _, _, _, _, _, _, _, _, _, _, _, _, _, j + 1, by omega, by simp, trivial, HJ2⟩, by show 3 - ((j : Int) + 1).toNat < 3 - ((j : Int)).toNat; omega⟩
          | exact ⟨⟨_, _, _, _, _, _, _, _, _, _, _, _, _, _, _, j + 1, by omega, by simp, trivial, HJ2⟩, by show 3 - ((j : Int) + 1).toNat < 3 - ((j : Int)).toNat; omega⟩
    · obtain rfl : j = 3 := by omega
      have hlX := HX.out.lt
      go_wp2_with fail
      refine (HN11.out _ HBS.out).mono ?_
      rintro e w9 ⟨rfl, rfl⟩
      go_wp2_with fail
      refine (HN12.out _ HBS.out).mono ?_
      rintro e w9 ⟨rfl, rfl⟩
      go_wp2_with fail
      refine (HN13.out _ HBS.out).mono ?_
      rintro e w9 ⟨rfl, rfl⟩
      go_upto_region 17 with fail
      have HX := Lib.hid (HX.out.put 10 (.int .i64 (z8 : Nat)) rfl)
      have HBS := Lib.hid (HBS.out.put (p := ⟨T, 10, none⟩) (.int .i64 (z8 : Nat)) (fun b hb => by have := HS.out b hb; show b ≠ T; omega))
      have HZ := Lib.hid (HZ.out.other (p := ⟨T, 10, none⟩) (by show w.heap.size ≠ T; omega) (.int .i64 (z8 : Nat)))
      have HU := Lib.hid (HU.out.other (p := ⟨T, 10, none⟩) (by show w.heap.size + 1 ≠ T; omega) (.int .i64 (z8 : Nat)))
      have HB := Lib.hid (HB.out.setCell (p := ⟨T, 10, none⟩) (by show w.heap.size ≤ T; omega) (.int .i64 (z8 : Nat)))
      have HX := Lib.hid (HX.out.put 9 (.int .i64 (p8 : Nat)) rfl)
      have HBS := Lib.hid (HBS.out.put (p := ⟨T, 9, none⟩) (.int .i64 (p8 : Nat)) (fun b hb => by have := HS.out b hb; show b ≠ T; omega))
      have HZ := Lib.hid (HZ.out.other (p := ⟨T, 9, none⟩) (by show w.heap.size ≠ T; omega) (.int .i64 (p8 : Nat)))
      have HU := Lib.hid (HU.out.other (p := ⟨T, 9, none⟩) (by show w.heap.size + 1 ≠ T; omega) (.int .i64 (p8 : Nat)))
      have HB := Lib.hid (HB.out.setCell (p := ⟨T, 9, none⟩) (by show w.heap.size ≤ T; omega) (.int .i64 (p8 : Nat)))
      generalize ((wr.setCell ⟨T, 10, none⟩ (.int .i64 (z8 : Nat))).setCell ⟨T, 9, none⟩ (.int .i64 (p8 : Nat))) = w8b at HX HBS HZ HU HB ⊢
      have x0 := HX.out.cell 0
      have x1 := HX.out.cell 1
      have x2 := HX.out.cell 2
      have x3 := HX.out.cell 3
      have x4 := HX.out.cell 4
      have x5 := HX.out.cell 5
      have x6 := HX.out.cell 6
      have x7 := HX.out.cell 7
      have x8 := HX.out.cell 8
      have x9 := HX.out.cell 9
      have x10 := HX.out.cell 10
      have x11 := HX.out.cell 11
      have x12 := HX.out.cell 12
      simp at x0 x1 x2 x3 x4 x5 x6 x7 x8 x9 x10 x11 x12
      have zc0 := HZ.out.cell 0
      have zc1 := HZ.out.cell 1
      have zc2 := HZ.out.cell 2
      have zc3 := HZ.out.cell 3
      have zc4 := HZ.out.cell 4
      have zc5 := HZ.out.cell 5
      have zc6 := HZ.out.cell 6
      have zc7 := HZ.out.cell 7
      have zc8 := HZ.out.cell 8
      have zc9 := HZ.out.cell 9
      have zc10 := HZ.out.cell 10
      have zc11 := HZ.out.cell 11
      have zc12 := HZ.out.cell 12
      have fzc0 := HZ.out.free 0
      have fzc1 := HZ.out.free 1
      have fzc2 := HZ.out.free 2
      have fzc3 := HZ.out.free 3
      have fzc4 := HZ.out.free 4
      have fzc5 := HZ.out.free 5
      have fzc6 := HZ.out.free 6
      have fzc7 := HZ.out.free 7
      have fzc8 := HZ.out.free 8
      have fzc9 := HZ.out.free 9
      have fzc10 := HZ.out.free 10
      have fzc11 := HZ.out.free 11
      have fzc12 := HZ.out.free 12
      simp at zc0 zc1 zc2 zc3 zc4 zc5 zc6 zc7 zc8 zc9 zc10 zc11 zc12
      have u0 := HU.out.cell 0
      have u1 := HU.out.cell 1
      have u2 := HU.out.cell 2
      have u3 := HU.out.cell 3
      have u4 := HU.out.cell 4
      have u5 := HU.out.cell 5
      have u6 := HU.out.cell 6
      have u7 := HU.out.cell 7
      have u8 := HU.out.cell 8
      have u9 := HU.out.cell 9
      have u10 := HU.out.cell 10
      have u11 := HU.out.cell 11
      have u12 := HU.out.cell 12
      simp at u0 u1 u2 u3 u4 u5 u6 u7 u8 u9 u10 u11 u12
      have hlZ9 := HZ.out.lt
      have hlU9 := HU.out.lt
      have HM := Lib.hid ((((((((((((((HZ.out.put 0 (.string ⟨#[]⟩) rfl).put 1 (.int .i64 0) rfl).put 2 (.int .i64 0) rfl).put 3 (.int .i64 0) rfl).put 4 (.int .i64 0) rfl).put 5 (.int .i64 0) rfl).put 6 (.int .i64 0) rfl).put 7 (.int .i64 0) rfl).put 8 (.int .u32 0) rfl).put 9 (.int .i64 0) rfl).put 10 (.int .i64 0) rfl).put 11 (.bool false) rfl).put 12 (.bool false) rfl))
      have h0 := HM.out.cell 0
      have h1 := HM.out.cell 1
      have h2 := HM.out.cell 2
      have h3 := HM.out.cell 3
      have h4 := HM.out.cell 4
      have h5 := HM.out.cell 5
      have h6 := HM.out.cell 6
      have h7 := HM.out.cell 7
      have h8 := HM.out.cell 8
      have h9 := HM.out.cell 9
      have h10 := HM.out.cell 10
      have h11 := HM.out.cell 11
      have h12 := HM.out.cell 12
      simp at h0 h1 h2 h3 h4 h5 h6 h7 h8 h9 h10 h11 h12
      go_wp2
      simp [bodyPost, results, Tryd.results13, go_sem, h0, h1, h2, h3, h4, h5, h6, h7, h8, h9, h10, h11, h12]
      exact ⟨rfl, (((((((((((((HB.out.setCell (by show w.heap.size ≤ w.heap.size; omega) _).setCell (by show w.heap.size ≤ w.heap.size; omega) _).setCell (by show w.heap.size ≤ w.heap.size; omega) _).setCell (by show w.heap.size ≤ w.heap.size; omega) _).setCell (by show w.heap.size ≤ w.heap.size; omega) _).setCell (by show w.heap.size ≤ w.heap.size; omega) _).setCell (by show w.heap.size ≤ w.heap.size; omega) _).setCell (by show w.heap.size ≤ w.heap.size; omega) _).setCell (by show w.heap.size ≤ w.heap.size; omega) _).setCell (by show w.heap.size ≤ w.heap.size; omega) _).setCell (by show w.heap.size ≤ w.heap.size; omega) _).setCell (by show w.heap.size ≤ w.heap.size; omega) _).setCell (by show w.heap.size ≤ w.heap.size; omega) _)⟩
set_option maxHeartbeats 8000000 in
set_option maxRecDepth 100000 in
theorem rparse_wide_code (A : Option Addr) (n c : Nat) (bs : List UInt8) (S : Nat → Prop) (w : World) (hS : ∀ b, S b → b < w.heap.size) (vr fl f8 f2 me ck dt cr pk sz ln pl : Nat) (nm : ByteArray) (ty tmo td th tmi ts : Int) (lt : Bool) (hB : Bs w S A n bs) (hn : n ≤ 1000) (h46 : 46 + ln ≤ n) (hnc : n ≤ c)
    (n1 : num ((bs.drop 6).take 2) = vr) (n2 : num ((bs.drop 8).take 2) = fl) (n3 : num ((bs.drop 10).take 2) = me) (n4 : num ((bs.drop 12).take 2) = ck) (n5 : num ((bs.drop 14).take 2) = dt) (n6 : num ((bs.drop 16).take 4) = cr) (n7 : num ((bs.drop 20).take 4) = pk) (n8 : num ((bs.drop 24).take 4) = sz) (n9 : num ((bs.drop 28).take 2) = ln) (n10 : num ((bs.drop 42).take 4) = pl)
    (hf8 : fl / 8 = f8) (hf2 : f8 % 2 = f2) (hlt : (f2 == 1) = lt) (htk : rightD dt ck = true) (htm : (if true = true then tmD dt ck else tm 0 0 0 0 0 0) = tm ty tmo td th tmi ts) (hnm : (⟨((bs.drop 46).take ln).toArray⟩ : ByteArray) = nm) (z8 p8 at8 : Nat) (h74 : ln + 74 ≤ n) (n11 : num ((bs.drop (ln + 50)).take 8) = z8) (n12 : num ((bs.drop (ln + 58)).take 8) = p8) (n13 : num ((bs.drop (ln + 66)).take 8) = at8) (hc46 : ¬ c = 46) (hwd : (vr == 45) = true) (hno : ∀ q, q < 3 → num ((bs.drop (ln + 50 + 8 * q)).take 8) ≤ 8589934592) (K0 : Int) (hK : (K0 == 0) = false) (hck : codeC nm (rightB ty tmo td th tmi ts) me p8 z8 at8 = K0) : Calls Tryd.prog 13 #[.slice A n c] w (RPost w (.agg #[.string ⟨#[]⟩, .int .i64 0, .int .i64 0, .int .i64 0, .int .i64 0, .int .i64 0, .int .i64 0, .int .i64 0, .int .u32 0, .int .i64 0, .int .i64 0, .bool false, .bool false]) 0 0) := by
  obtain ⟨b, off, rfl, -, -, -⟩ := hB.at_ (i := 0) (by omega)
  have hb1 : vr < 65536 := n1 ▸ num_bd bs _ 2 _ (by decide)
  have hb2 : fl < 65536 := n2 ▸ num_bd bs _ 2 _ (by decide)
  have hb3 : me < 65536 := n3 ▸ num_bd bs _ 2 _ (by decide)
  have hb4 : ck < 65536 := n4 ▸ num_bd bs _ 2 _ (by decide)
  have hb5 : dt < 65536 := n5 ▸ num_bd bs _ 2 _ (by decide)
  have hb6 : cr < 4294967296 := n6 ▸ num_bd bs _ 4 _ (by decide)
  have hb7 : pk < 4294967296 := n7 ▸ num_bd bs _ 4 _ (by decide)
  have hb8 : sz < 4294967296 := n8 ▸ num_bd bs _ 4 _ (by decide)
  have hb9 : ln < 65536 := n9 ▸ num_bd bs _ 2 _ (by decide)
  have hb10 : pl < 4294967296 := n10 ▸ num_bd bs _ 4 _ (by decide)
  obtain ⟨HN1⟩ : Nonempty (Hid (∀ w', Bs w' S (some ⟨b, off, none⟩) n bs → Calls Tryd.prog 30 #[.slice (some ⟨b, off, none⟩) n c, .int .i64 6, .int .i64 2] w' fun e w'' => e = .returned (.int .i64 (vr : Nat)) ∧ w' = w'')) := ⟨Lib.hid fun w' h => rnum_any _ n c bs S 6 2 vr w' h (by omega) (by decide) (by decide) hn hnc n1 (by omega)⟩
  obtain ⟨HN2⟩ : Nonempty (Hid (∀ w', Bs w' S (some ⟨b, off, none⟩) n bs → Calls Tryd.prog 30 #[.slice (some ⟨b, off, none⟩) n c, .int .i64 8, .int .i64 2] w' fun e w'' => e = .returned (.int .i64 (fl : Nat)) ∧ w' = w'')) := ⟨Lib.hid fun w' h => rnum_any _ n c bs S 8 2 fl w' h (by omega) (by decide) (by decide) hn hnc n2 (by omega)⟩
  obtain ⟨HN3⟩ : Nonempty (Hid (∀ w', Bs w' S (some ⟨b, off, none⟩) n bs → Calls Tryd.prog 30 #[.slice (some ⟨b, off, none⟩) n c, .int .i64 10, .int .i64 2] w' fun e w'' => e = .returned (.int .i64 (me : Nat)) ∧ w' = w'')) := ⟨Lib.hid fun w' h => rnum_any _ n c bs S 10 2 me w' h (by omega) (by decide) (by decide) hn hnc n3 (by omega)⟩
  obtain ⟨HN4⟩ : Nonempty (Hid (∀ w', Bs w' S (some ⟨b, off, none⟩) n bs → Calls Tryd.prog 30 #[.slice (some ⟨b, off, none⟩) n c, .int .i64 12, .int .i64 2] w' fun e w'' => e = .returned (.int .i64 (ck : Nat)) ∧ w' = w'')) := ⟨Lib.hid fun w' h => rnum_any _ n c bs S 12 2 ck w' h (by omega) (by decide) (by decide) hn hnc n4 (by omega)⟩
  obtain ⟨HN5⟩ : Nonempty (Hid (∀ w', Bs w' S (some ⟨b, off, none⟩) n bs → Calls Tryd.prog 30 #[.slice (some ⟨b, off, none⟩) n c, .int .i64 14, .int .i64 2] w' fun e w'' => e = .returned (.int .i64 (dt : Nat)) ∧ w' = w'')) := ⟨Lib.hid fun w' h => rnum_any _ n c bs S 14 2 dt w' h (by omega) (by decide) (by decide) hn hnc n5 (by omega)⟩
  obtain ⟨HN6⟩ : Nonempty (Hid (∀ w', Bs w' S (some ⟨b, off, none⟩) n bs → Calls Tryd.prog 30 #[.slice (some ⟨b, off, none⟩) n c, .int .i64 16, .int .i64 4] w' fun e w'' => e = .returned (.int .i64 (cr : Nat)) ∧ w' = w'')) := ⟨Lib.hid fun w' h => rnum_any _ n c bs S 16 4 cr w' h (by omega) (by decide) (by decide) hn hnc n6 (by omega)⟩
  obtain ⟨HN7⟩ : Nonempty (Hid (∀ w', Bs w' S (some ⟨b, off, none⟩) n bs → Calls Tryd.prog 30 #[.slice (some ⟨b, off, none⟩) n c, .int .i64 20, .int .i64 4] w' fun e w'' => e = .returned (.int .i64 (pk : Nat)) ∧ w' = w'')) := ⟨Lib.hid fun w' h => rnum_any _ n c bs S 20 4 pk w' h (by omega) (by decide) (by decide) hn hnc n7 (by omega)⟩
  obtain ⟨HN8⟩ : Nonempty (Hid (∀ w', Bs w' S (some ⟨b, off, none⟩) n bs → Calls Tryd.prog 30 #[.slice (some ⟨b, off, none⟩) n c, .int .i64 24, .int .i64 4] w' fun e w'' => e = .returned (.int .i64 (sz : Nat)) ∧ w' = w'')) := ⟨Lib.hid fun w' h => rnum_any _ n c bs S 24 4 sz w' h (by omega) (by decide) (by decide) hn hnc n8 (by omega)⟩
  obtain ⟨HN9⟩ : Nonempty (Hid (∀ w', Bs w' S (some ⟨b, off, none⟩) n bs → Calls Tryd.prog 30 #[.slice (some ⟨b, off, none⟩) n c, .int .i64 28, .int .i64 2] w' fun e w'' => e = .returned (.int .i64 (ln : Nat)) ∧ w' = w'')) := ⟨Lib.hid fun w' h => rnum_any _ n c bs S 28 2 ln w' h (by omega) (by decide) (by decide) hn hnc n9 (by omega)⟩
  obtain ⟨HN10⟩ : Nonempty (Hid (∀ w', Bs w' S (some ⟨b, off, none⟩) n bs → Calls Tryd.prog 30 #[.slice (some ⟨b, off, none⟩) n c, .int .i64 42, .int .i64 4] w' fun e w'' => e = .returned (.int .i64 (pl : Nat)) ∧ w' = w'')) := ⟨Lib.hid fun w' h => rnum_any _ n c bs S 42 4 pl w' h (by omega) (by decide) (by decide) hn hnc n10 (by omega)⟩
  obtain ⟨HDc⟩ : Nonempty (Hid (∀ w', Calls Tryd.prog 31 #[.int .i64 (dt : Nat), .int .i64 (ck : Nat)] w' fun e w'' => e = .returned (.tuple #[tm ty tmo td th tmi ts, .bool true]) ∧ Below w'.heap.size w' w'')) := ⟨Lib.hid fun w' => by
    have h := rdecode_any (dt : Int) (ck : Int) w' true htk (by omega) (by omega) (by omega) (by omega)
    rw [htm] at h
    exact h⟩
  obtain ⟨w0, hw0⟩ : ∃ w0, (w.alloc (.cells #[.string ⟨#[]⟩, .int .i64 0, .int .i64 0, .int .i64 0, .int .i64 0, .int .i64 0, .int .i64 0, .int .i64 0, .int .u32 0, .int .i64 0, .int .i64 0, .bool false, .bool false] 30)).alloc (.cells #[.string ⟨#[]⟩, .int .i64 0, .int .i64 0, .int .i64 0, .int .i64 0, .int .i64 0, .int .i64 0, .int .i64 0, .int .u32 0, .int .i64 0, .int .i64 0, .bool false, .bool false] 30) = w0 := ⟨_, rfl⟩
  have HB : Hid (Below w.heap.size w w0) := Lib.hid (by rw [← hw0]; exact ((Below.refl _ _).alloc (Nat.le_refl _) _).alloc (by simp) _)
  have HZ : Hid (Whole w0 w.heap.size 30 #[.string ⟨#[]⟩, .int .i64 0, .int .i64 0, .int .i64 0, .int .i64 0, .int .i64 0, .int .i64 0, .int .i64 0, .int .u32 0, .int .i64 0, .int .i64 0, .bool false, .bool false]) := Lib.hid (by rw [← hw0]; exact (Whole.new w 30 _ rfl).alloc _)
  have HU : Hid (Whole w0 (w.heap.size + 1) 30 #[.string ⟨#[]⟩, .int .i64 0, .int .i64 0, .int .i64 0, .int .i64 0, .int .i64 0, .int .i64 0, .int .i64 0, .int .u32 0, .int .i64 0, .int .i64 0, .bool false, .bool false]) := Lib.hid (by rw [← hw0]; exact Whole.new _ 30 _ (by simp))
  have HBS : Hid (Bs w0 S (some ⟨b, off, none⟩) n bs) := Lib.hid (by rw [← hw0]; exact (hB.alloc _).alloc _)
  have HE0 := Lib.hid hw0
  have hlt0 := HZ.out.lt
  have hltU := HU.out.lt
  clear hw0
  have HS := Lib.hid hS
  have HNM := Lib.hid hnm
  have d1 : decide (n < 46) = false := decide_eq_false (by omega)
  have d1' : decide ((n : Int) < 46) = false := decide_eq_false (by omega)
  obtain ⟨m3, hm3⟩ : ∃ m, n - 46 = m := ⟨_, rfl⟩
  have e1 : IntKind.i64.wrap ((n : Int) - 46) = (m3 : Int) := by rw [IntWalk.i64_in _ (by omega)]; omega
  have e1' : ((n : Int) - 46) = (m3 : Int) := by omega
  have d2 : decide ((m3 : Int) < (ln : Int)) = false := decide_eq_false (by omega)
  have d2' : decide (m3 < ln) = false := decide_eq_false (by omega)
  obtain ⟨M, hM⟩ : ∃ M, 46 + ln = M := ⟨_, rfl⟩
  have k1 : IntKind.i64.wrap (46 + (ln : Int)) = (M : Int) := by rw [IntWalk.i64_in _ (by omega)]; omega
  have k1' : (46 : Int) + (ln : Int) = (M : Int) := by omega
  have k2 : (M : Int) ≤ (c : Int) := by omega
  have k3 : (46 : Int) ≤ (M : Int) := by omega
  have k4 : M - 46 = ln := by omega
  have v1 : ((vr : Int) == 45) = true := by rw [← hwd]; exact natbeq vr 45
  have v2 : Int.tdiv (fl : Int) 8 = (f8 : Int) := by rw [← hf8]; rfl
  have v3 : Int.tmod (f8 : Int) 2 = (f2 : Int) := by rw [← hf2]; rfl
  have v4 : ((f2 : Int) == 1) = lt := by rw [← hlt]; exact natbeq f2 1
  have w8 : IntKind.i64.wrap (f8 : Int) = (f8 : Int) := IntWalk.i64_in _ (by omega)
  have w2 : IntKind.i64.wrap (f2 : Int) = (f2 : Int) := IntWalk.i64_in _ (by omega)
  have wc : IntKind.u32.wrap (cr : Int) = (cr : Int) := IntWalk.u32_in _ (by omega)
  have z8b : z8 ≤ 8589934592 := n11 ▸ hno 0 (by omega)
  have p8b : p8 ≤ 8589934592 := n12 ▸ hno 1 (by omega)
  have at8b : at8 ≤ 8589934592 := n13 ▸ hno 2 (by omega)
  obtain ⟨a50, h50⟩ : ∃ a, ln + 50 = a := ⟨_, rfl⟩
  obtain ⟨a58, h58⟩ : ∃ a, ln + 58 = a := ⟨_, rfl⟩
  obtain ⟨a66, h66⟩ : ∃ a, ln + 66 = a := ⟨_, rfl⟩
  obtain ⟨a74, h74'⟩ : ∃ a, ln + 74 = a := ⟨_, rfl⟩
  rw [h50] at n11
  rw [h58] at n12
  rw [h66] at n13
  have ia50 : IntKind.i64.wrap (50 + (ln : Int)) = (a50 : Int) := by rw [IntWalk.i64_in _ (by omega)]; omega
  have ja50 : (50 : Int) + (ln : Int) = (a50 : Int) := by omega
  have ia58 : IntKind.i64.wrap (58 + (ln : Int)) = (a58 : Int) := by rw [IntWalk.i64_in _ (by omega)]; omega
  have ja58 : (58 : Int) + (ln : Int) = (a58 : Int) := by omega
  have ia66 : IntKind.i64.wrap (66 + (ln : Int)) = (a66 : Int) := by rw [IntWalk.i64_in _ (by omega)]; omega
  have ja66 : (66 : Int) + (ln : Int) = (a66 : Int) := by omega
  have ia74 : IntKind.i64.wrap (74 + (ln : Int)) = (a74 : Int) := by rw [IntWalk.i64_in _ (by omega)]; omega
  have ja74 : (74 : Int) + (ln : Int) = (a74 : Int) := by omega
  have p1 : decide ((n : Int) < (a74 : Int)) = false := decide_eq_false (by omega)
  have p1' : decide (n < a74) = false := decide_eq_false (by omega)
  have HA5 : Hid (a50 + 24 ≤ n ∧ a58 = a50 + 8 ∧ a66 = a50 + 16) := Lib.hid (by omega)
  obtain ⟨HG⟩ : Nonempty (Hid (∀ (o v : Nat) w', Bs w' S (some ⟨b, off, none⟩) n bs → o + 8 ≤ n → num ((bs.drop o).take 8) = v → ∀ C, Calls Tryd.prog 32 #[.slice (some ⟨b, off + o, none⟩) 8 C] w' fun e w'' => e = .returned (.int .u64 (v : Nat)) ∧ w' = w'')) := ⟨Lib.hid fun o v w' h ho hv C => by
    have h2 := number_any (some ⟨b, off + o, none⟩) 8 C ((bs.drop o).take 8) S w' ((h.drop (k := o) (by omega)).take (by omega)) (by decide)
    rw [hv] at h2
    exact h2⟩
  rw [h50] at hno
  have HNO := Lib.hid hno
  obtain ⟨HN11⟩ : Nonempty (Hid (∀ w', Bs w' S (some ⟨b, off, none⟩) n bs → Calls Tryd.prog 30 #[.slice (some ⟨b, off, none⟩) n c, .int .i64 (a50 : Nat), .int .i64 8] w' fun e w'' => e = .returned (.int .i64 (z8 : Nat)) ∧ w' = w'')) := ⟨Lib.hid fun w' h => rnum_any _ n c bs S a50 8 z8 w' h (by omega) (by decide) (by decide) hn hnc n11 (by omega)⟩
  obtain ⟨HN12⟩ : Nonempty (Hid (∀ w', Bs w' S (some ⟨b, off, none⟩) n bs → Calls Tryd.prog 30 #[.slice (some ⟨b, off, none⟩) n c, .int .i64 (a58 : Nat), .int .i64 8] w' fun e w'' => e = .returned (.int .i64 (p8 : Nat)) ∧ w' = w'')) := ⟨Lib.hid fun w' h => rnum_any _ n c bs S a58 8 p8 w' h (by omega) (by decide) (by decide) hn hnc n12 (by omega)⟩
  obtain ⟨HN13⟩ : Nonempty (Hid (∀ w', Bs w' S (some ⟨b, off, none⟩) n bs → Calls Tryd.prog 30 #[.slice (some ⟨b, off, none⟩) n c, .int .i64 (a66 : Nat), .int .i64 8] w' fun e w'' => e = .returned (.int .i64 (at8 : Nat)) ∧ w' = w'')) := ⟨Lib.hid fun w' h => rnum_any _ n c bs S a66 8 at8 w' h (by omega) (by decide) (by decide) hn hnc n13 (by omega)⟩
  obtain ⟨HCK⟩ : Nonempty (Hid (∀ w', Calls Tryd.prog 8 #[.agg #[.string nm, .int .i64 ty, .int .i64 tmo, .int .i64 td, .int .i64 th, .int .i64 tmi, .int .i64 ts, .int .i64 (me : Nat), .int .u32 (cr : Nat), .int .i64 (p8 : Nat), .int .i64 (z8 : Nat), .bool true, .bool lt], .int .i64 (at8 : Nat)] w' fun e w'' => e = .returned (.int .i64 K0) ∧ Below w'.heap.size w' w'')) := ⟨Lib.hid fun w' => by
    have h := rccheck_any nm ty tmo td th tmi ts (me : Nat) cr (p8 : Nat) (z8 : Nat) true lt (at8 : Nat) w'
    rw [hck] at h
    exact h⟩
  have hK' : (K0 != 0) = true := by simpa using hK
  clear hck n11 n12 n13 h50 h58 h66 h74' h74 hno
  clear hB n1 n2 n3 n4 n5 n6 n7 n8 n9 n10 hS hnm htm htk hf8 hf2 hlt hwd
  go_enter Tryd.func13, Tryd.ntmps13
  go_wp2_with fail
  rw [HE0.out]
  refine (HN9.out _ HBS.out).mono ?_
  rintro e w1 ⟨rfl, rfl⟩
  go_wp2_with fail
  refine (HN9.out _ HBS.out).mono ?_
  rintro e w1 ⟨rfl, rfl⟩
  go_wp2_with fail
  refine (HN5.out _ HBS.out).mono ?_
  rintro e w1 ⟨rfl, rfl⟩
  go_wp2_with fail
  refine (HN4.out _ HBS.out).mono ?_
  rintro e w1 ⟨rfl, rfl⟩
  go_wp2_with fail
  refine (HDc.out _).mono ?_
  rintro e w1 ⟨rfl, hb1⟩
  have HB := Lib.hid (HB.out.trans (hb1.mono HB.out.size))
  have HZ := Lib.hid (HZ.out.below' hb1)
  have HU := Lib.hid (HU.out.below' hb1)
  have HBS := Lib.hid (HBS.out.below hb1)
  have hlt1 := HU.out.lt
  clear hb1
  go_wp2_with fail
  obtain ⟨w2, hw2⟩ : ∃ w2, w1.alloc (.cells #[.int .i64 ty, .int .i64 tmo, .int .i64 td, .int .i64 th, .int .i64 tmi, .int .i64 ts] 23) = w2 := ⟨_, rfl⟩
  have HQ : Hid (Whole w2 w1.heap.size 23 #[.int .i64 ty, .int .i64 tmo, .int .i64 td, .int .i64 th, .int .i64 tmi, .int .i64 ts]) := Lib.hid (hw2 ▸ Whole.new w1 23 _ rfl)
  have HB := Lib.hid (show Below w.heap.size w w2 from hw2 ▸ HB.out.alloc HB.out.size _)
  have HZ := Lib.hid (show Whole w2 w.heap.size 30 _ from hw2 ▸ HZ.out.alloc _)
  have HU := Lib.hid (show Whole w2 (w.heap.size + 1) 30 _ from hw2 ▸ HU.out.alloc _)
  have HBS := Lib.hid (show Bs w2 S _ n bs from hw2 ▸ HBS.out.alloc _)
  have hlt2 := HU.out.lt
  have hQ1 : w.heap.size + 1 < w1.heap.size := hlt1
  have hQ2 := HQ.out.lt
  rw [hw2]
  generalize w1.heap.size = q9 at HQ hw2 hlt1 hQ1 hQ2 ⊢
  clear hw2 hlt1
  have q0 := HQ.out.cell 0
  have q1 := HQ.out.cell 1
  have q2 := HQ.out.cell 2
  have q3 := HQ.out.cell 3
  have q4 := HQ.out.cell 4
  have q5 := HQ.out.cell 5
  have fq0 := HQ.out.free 0
  have fq1 := HQ.out.free 1
  have fq2 := HQ.out.free 2
  have fq3 := HQ.out.free 3
  have fq4 := HQ.out.free 4
  have fq5 := HQ.out.free 5
  simp at q0 q1 q2 q3 q4 q5
  obtain ⟨C9, hC9⟩ : ∃ C, c - 46 = C := ⟨_, rfl⟩
  have HSL : Hid (Bs w2 S (some ⟨b, off + 46, none⟩) ln ((bs.drop 46).take ln)) := Lib.hid ((HBS.out.drop (k := 46) (by omega)).take (k := ln) (by omega))
  have kn := fun mm => str_val (w := w2.over mm) C9 nm (HSL.out.below (World.over_below w2 mm)) HNM.out
  have HC9 := Lib.hid hC9
  refine wp_region_free_tail2 25 [7, 9, 12, 14, 16, 19, 23] (by kernel_rfl) (by kernel_rfl) (by kernel_rfl) (by kernel_rfl) ?_
  simp only [List.take_succ_cons, List.take_zero, List.drop_succ_cons, List.drop_zero]
  iterate 7 (first | ((with_reducible refine vfree_skip rfl ?_ ?_); (focus rfl); intro K hK; go_big_quiet_op; go_big_quiet_on) | ((with_reducible refine vfree_hard ?_ ?_ ?_); (focus rfl); (focus rfl); intro K hK; go_big_quiet_op; go_big_quiet_on))
  refine vfree_one (.int .i64 (me : Nat)) rfl rfl rfl (fun w' hw' => ?_) ?_
  · have hb := hw'.1.below
    go_simp
    exact Calls.one_same ((HN3.out w' (HBS.out.below hb)).mono fun _ _ h => ⟨h.1, h.2⟩)
  intro K hK
  go_big_quiet_op
  go_big_quiet_on
  iterate 1 (first | ((with_reducible refine vfree_skip rfl ?_ ?_); (focus rfl); intro K hK; go_big_quiet_op; go_big_quiet_on) | ((with_reducible refine vfree_hard ?_ ?_ ?_); (focus rfl); (focus rfl); intro K hK; go_big_quiet_op; go_big_quiet_on))
  refine vfree_one (.int .i64 (cr : Nat)) rfl rfl rfl (fun w' hw' => ?_) ?_
  · have hb := hw'.1.below
    go_simp
    exact Calls.one_same ((HN6.out w' (HBS.out.below hb)).mono fun _ _ h => ⟨h.1, h.2⟩)
  intro K hK
  go_big_quiet_op
  go_big_quiet_on
  iterate 2 (first | ((with_reducible refine vfree_skip rfl ?_ ?_); (focus rfl); intro K hK; go_big_quiet_op; go_big_quiet_on) | ((with_reducible refine vfree_hard ?_ ?_ ?_); (focus rfl); (focus rfl); intro K hK; go_big_quiet_op; go_big_quiet_on))
  refine vfree_one (.int .i64 (pk : Nat)) rfl rfl rfl (fun w' hw' => ?_) ?_
  · have hb := hw'.1.below
    go_simp
    exact Calls.one_same ((HN7.out w' (HBS.out.below hb)).mono fun _ _ h => ⟨h.1, h.2⟩)
  intro K hK
  go_big_quiet_op
  go_big_quiet_on
  iterate 1 (first | ((with_reducible refine vfree_skip rfl ?_ ?_); (focus rfl); intro K hK; go_big_quiet_op; go_big_quiet_on) | ((with_reducible refine vfree_hard ?_ ?_ ?_); (focus rfl); (focus rfl); intro K hK; go_big_quiet_op; go_big_quiet_on))
  refine vfree_one (.int .i64 (sz : Nat)) rfl rfl rfl (fun w' hw' => ?_) ?_
  · have hb := hw'.1.below
    go_simp
    exact Calls.one_same ((HN8.out w' (HBS.out.below hb)).mono fun _ _ h => ⟨h.1, h.2⟩)
  intro K hK
  go_big_quiet_op
  go_big_quiet_on
  iterate 1 (first | ((with_reducible refine vfree_skip rfl ?_ ?_); (focus rfl); intro K hK; go_big_quiet_op; go_big_quiet_on) | ((with_reducible refine vfree_hard ?_ ?_ ?_); (focus rfl); (focus rfl); intro K hK; go_big_quiet_op; go_big_quiet_on))
  refine vfree_one (.int .i64 (vr : Nat)) rfl rfl rfl (fun w' hw' => ?_) ?_
  · have hb := hw'.1.below
    go_simp
    exact Calls.one_same ((HN1.out w' (HBS.out.below hb)).mono fun _ _ h => ⟨h.1, h.2⟩)
  intro K hK
  go_big_quiet_op
  go_big_quiet_on
  iterate 2 (first | ((with_reducible refine vfree_skip rfl ?_ ?_); (focus rfl); intro K hK; go_big_quiet_op; go_big_quiet_on) | ((with_reducible refine vfree_hard ?_ ?_ ?_); (focus rfl); (focus rfl); intro K hK; go_big_quiet_op; go_big_quiet_on))
  refine vfree_one (.int .i64 (fl : Nat)) rfl rfl rfl (fun w' hw' => ?_) ?_
  · have hb := hw'.1.below
    go_simp
    exact Calls.one_same ((HN2.out w' (HBS.out.below hb)).mono fun _ _ h => ⟨h.1, h.2⟩)
  intro K hK
  go_big_quiet_op
  go_big_quiet_on
  iterate 3 (first | ((with_reducible refine vfree_skip rfl ?_ ?_); (focus rfl); intro K hK; go_big_quiet_op; go_big_quiet_on) | ((with_reducible refine vfree_hard ?_ ?_ ?_); (focus rfl); (focus rfl); intro K hK; go_big_quiet_op; go_big_quiet_on))
  refine vfree_one (.agg #[.string nm, .int .i64 ty, .int .i64 tmo, .int .i64 td, .int .i64 th, .int .i64 tmi, .int .i64 ts, .int .i64 (me : Nat), .int .u32 (cr : Nat), .int .i64 (pk : Nat), .int .i64 (sz : Nat), .bool true, .bool lt]) rfl rfl rfl (fun w' hw' => ?_) ?_
  · clear hw'
    go_simp
    exact ⟨Below.refl _ _, rfl⟩
  intro K hK
  go_big_quiet_op
  go_big_quiet_on
  refine vfree_soft (ι := Nat) (fun i => .pointer (some ⟨i, 0, none⟩)) (fun i w' => w2.heap.size ≤ i ∧ Whole w' i 30 #[.string ⟨#[]⟩, .int .i64 0, .int .i64 0, .int .i64 0, .int .i64 0, .int .i64 0, .int .i64 0, .int .i64 0, .int .u32 0, .int .i64 0, .int .i64 0, .bool false, .bool false]) rfl rfl rfl (fun _ => fun _ _ h he => ⟨h.1, h.2.below' he⟩) (fun w' hw' => ?_) (fun T => ?_)
  · have hb := hw'.1.below
    clear hw'
    go_simp
    exact ⟨(Below.refl _ _).alloc (Nat.le_refl _) _, w'.heap.size, rfl, hb.size, Whole.new w' 30 _ rfl⟩
  intro K hK
  go_big_quiet_op
  go_big_quiet_on
  refine vfree_nil ?_
  intro w4 hb4 hk4
  obtain ⟨hT, hX⟩ := (hk4 24).1
  have HB := Lib.hid (HB.out.trans (hb4.mono HB.out.size))
  have HX := Lib.hid hX
  have HZ := Lib.hid (HZ.out.below' hb4)
  have HU := Lib.hid (HU.out.below' hb4)
  have HBS := Lib.hid (HBS.out.below hb4)
  have hwT : w.heap.size + 1 < T := by omega
  clear hk4 hb4 hX
  have x0 := HX.out.cell 0
  have x1 := HX.out.cell 1
  have x2 := HX.out.cell 2
  have x3 := HX.out.cell 3
  have x4 := HX.out.cell 4
  have x5 := HX.out.cell 5
  have x6 := HX.out.cell 6
  have x7 := HX.out.cell 7
  have x8 := HX.out.cell 8
  have x9 := HX.out.cell 9
  have x10 := HX.out.cell 10
  have x11 := HX.out.cell 11
  have x12 := HX.out.cell 12
  have fx0 := HX.out.free 0
  have fx1 := HX.out.free 1
  have fx2 := HX.out.free 2
  have fx3 := HX.out.free 3
  have fx4 := HX.out.free 4
  have fx5 := HX.out.free 5
  have fx6 := HX.out.free 6
  have fx7 := HX.out.free 7
  have fx8 := HX.out.free 8
  have fx9 := HX.out.free 9
  have fx10 := HX.out.free 10
  have fx11 := HX.out.free 11
  have fx12 := HX.out.free 12
  simp at x0 x1 x2 x3 x4 x5 x6 x7 x8 x9 x10 x11 x12
  have hlX := HX.out.lt
  go_wp2_with fail
  have HX := Lib.hid (HX.out.put 0 (.string nm) rfl)
  have HBS := Lib.hid (HBS.out.put (p := ⟨T, 0, none⟩) (.string nm) (fun b hb => by have := HS.out b hb; show b ≠ T; omega))
  have HZ := Lib.hid (HZ.out.other (p := ⟨T, 0, none⟩) (by show w.heap.size ≠ T; omega) (.string nm))
  have HU := Lib.hid (HU.out.other (p := ⟨T, 0, none⟩) (by show w.heap.size + 1 ≠ T; omega) (.string nm))
  have HB := Lib.hid (HB.out.setCell (p := ⟨T, 0, none⟩) (by show w.heap.size ≤ T; omega) (.string nm))
  have HX := Lib.hid (HX.out.put 1 (.int .i64 ty) rfl)
  have HBS := Lib.hid (HBS.out.put (p := ⟨T, 1, none⟩) (.int .i64 ty) (fun b hb => by have := HS.out b hb; show b ≠ T; omega))
  have HZ := Lib.hid (HZ.out.other (p := ⟨T, 1, none⟩) (by show w.heap.size ≠ T; omega) (.int .i64 ty))
  have HU := Lib.hid (HU.out.other (p := ⟨T, 1, none⟩) (by show w.heap.size + 1 ≠ T; omega) (.int .i64 ty))
  have HB := Lib.hid (HB.out.setCell (p := ⟨T, 1, none⟩) (by show w.heap.size ≤ T; omega) (.int .i64 ty))
  have HX := Lib.hid (HX.out.put 2 (.int .i64 tmo) rfl)
  have HBS := Lib.hid (HBS.out.put (p := ⟨T, 2, none⟩) (.int .i64 tmo) (fun b hb => by have := HS.out b hb; show b ≠ T; omega))
  have HZ := Lib.hid (HZ.out.other (p := ⟨T, 2, none⟩) (by show w.heap.size ≠ T; omega) (.int .i64 tmo))
  have HU := Lib.hid (HU.out.other (p := ⟨T, 2, none⟩) (by show w.heap.size + 1 ≠ T; omega) (.int .i64 tmo))
  have HB := Lib.hid (HB.out.setCell (p := ⟨T, 2, none⟩) (by show w.heap.size ≤ T; omega) (.int .i64 tmo))
  have HX := Lib.hid (HX.out.put 3 (.int .i64 td) rfl)
  have HBS := Lib.hid (HBS.out.put (p := ⟨T, 3, none⟩) (.int .i64 td) (fun b hb => by have := HS.out b hb; show b ≠ T; omega))
  have HZ := Lib.hid (HZ.out.other (p := ⟨T, 3, none⟩) (by show w.heap.size ≠ T; omega) (.int .i64 td))
  have HU := Lib.hid (HU.out.other (p := ⟨T, 3, none⟩) (by show w.heap.size + 1 ≠ T; omega) (.int .i64 td))
  have HB := Lib.hid (HB.out.setCell (p := ⟨T, 3, none⟩) (by show w.heap.size ≤ T; omega) (.int .i64 td))
  have HX := Lib.hid (HX.out.put 4 (.int .i64 th) rfl)
  have HBS := Lib.hid (HBS.out.put (p := ⟨T, 4, none⟩) (.int .i64 th) (fun b hb => by have := HS.out b hb; show b ≠ T; omega))
  have HZ := Lib.hid (HZ.out.other (p := ⟨T, 4, none⟩) (by show w.heap.size ≠ T; omega) (.int .i64 th))
  have HU := Lib.hid (HU.out.other (p := ⟨T, 4, none⟩) (by show w.heap.size + 1 ≠ T; omega) (.int .i64 th))
  have HB := Lib.hid (HB.out.setCell (p := ⟨T, 4, none⟩) (by show w.heap.size ≤ T; omega) (.int .i64 th))
  have HX := Lib.hid (HX.out.put 5 (.int .i64 tmi) rfl)
  have HBS := Lib.hid (HBS.out.put (p := ⟨T, 5, none⟩) (.int .i64 tmi) (fun b hb => by have := HS.out b hb; show b ≠ T; omega))
  have HZ := Lib.hid (HZ.out.other (p := ⟨T, 5, none⟩) (by show w.heap.size ≠ T; omega) (.int .i64 tmi))
  have HU := Lib.hid (HU.out.other (p := ⟨T, 5, none⟩) (by show w.heap.size + 1 ≠ T; omega) (.int .i64 tmi))
  have HB := Lib.hid (HB.out.setCell (p := ⟨T, 5, none⟩) (by show w.heap.size ≤ T; omega) (.int .i64 tmi))
  have HX := Lib.hid (HX.out.put 6 (.int .i64 ts) rfl)
  have HBS := Lib.hid (HBS.out.put (p := ⟨T, 6, none⟩) (.int .i64 ts) (fun b hb => by have := HS.out b hb; show b ≠ T; omega))
  have HZ := Lib.hid (HZ.out.other (p := ⟨T, 6, none⟩) (by show w.heap.size ≠ T; omega) (.int .i64 ts))
  have HU := Lib.hid (HU.out.other (p := ⟨T, 6, none⟩) (by show w.heap.size + 1 ≠ T; omega) (.int .i64 ts))
  have HB := Lib.hid (HB.out.setCell (p := ⟨T, 6, none⟩) (by show w.heap.size ≤ T; omega) (.int .i64 ts))
  have HX := Lib.hid (HX.out.put 7 (.int .i64 (me : Nat)) rfl)
  have HBS := Lib.hid (HBS.out.put (p := ⟨T, 7, none⟩) (.int .i64 (me : Nat)) (fun b hb => by have := HS.out b hb; show b ≠ T; omega))
  have HZ := Lib.hid (HZ.out.other (p := ⟨T, 7, none⟩) (by show w.heap.size ≠ T; omega) (.int .i64 (me : Nat)))
  have HU := Lib.hid (HU.out.other (p := ⟨T, 7, none⟩) (by show w.heap.size + 1 ≠ T; omega) (.int .i64 (me : Nat)))
  have HB := Lib.hid (HB.out.setCell (p := ⟨T, 7, none⟩) (by show w.heap.size ≤ T; omega) (.int .i64 (me : Nat)))
  have HX := Lib.hid (HX.out.put 8 (.int .u32 (cr : Nat)) rfl)
  have HBS := Lib.hid (HBS.out.put (p := ⟨T, 8, none⟩) (.int .u32 (cr : Nat)) (fun b hb => by have := HS.out b hb; show b ≠ T; omega))
  have HZ := Lib.hid (HZ.out.other (p := ⟨T, 8, none⟩) (by show w.heap.size ≠ T; omega) (.int .u32 (cr : Nat)))
  have HU := Lib.hid (HU.out.other (p := ⟨T, 8, none⟩) (by show w.heap.size + 1 ≠ T; omega) (.int .u32 (cr : Nat)))
  have HB := Lib.hid (HB.out.setCell (p := ⟨T, 8, none⟩) (by show w.heap.size ≤ T; omega) (.int .u32 (cr : Nat)))
  have HX := Lib.hid (HX.out.put 9 (.int .i64 (pk : Nat)) rfl)
  have HBS := Lib.hid (HBS.out.put (p := ⟨T, 9, none⟩) (.int .i64 (pk : Nat)) (fun b hb => by have := HS.out b hb; show b ≠ T; omega))
  have HZ := Lib.hid (HZ.out.other (p := ⟨T, 9, none⟩) (by show w.heap.size ≠ T; omega) (.int .i64 (pk : Nat)))
  have HU := Lib.hid (HU.out.other (p := ⟨T, 9, none⟩) (by show w.heap.size + 1 ≠ T; omega) (.int .i64 (pk : Nat)))
  have HB := Lib.hid (HB.out.setCell (p := ⟨T, 9, none⟩) (by show w.heap.size ≤ T; omega) (.int .i64 (pk : Nat)))
  have HX := Lib.hid (HX.out.put 10 (.int .i64 (sz : Nat)) rfl)
  have HBS := Lib.hid (HBS.out.put (p := ⟨T, 10, none⟩) (.int .i64 (sz : Nat)) (fun b hb => by have := HS.out b hb; show b ≠ T; omega))
  have HZ := Lib.hid (HZ.out.other (p := ⟨T, 10, none⟩) (by show w.heap.size ≠ T; omega) (.int .i64 (sz : Nat)))
  have HU := Lib.hid (HU.out.other (p := ⟨T, 10, none⟩) (by show w.heap.size + 1 ≠ T; omega) (.int .i64 (sz : Nat)))
  have HB := Lib.hid (HB.out.setCell (p := ⟨T, 10, none⟩) (by show w.heap.size ≤ T; omega) (.int .i64 (sz : Nat)))
  have HX := Lib.hid (HX.out.put 11 (.bool true) rfl)
  have HBS := Lib.hid (HBS.out.put (p := ⟨T, 11, none⟩) (.bool true) (fun b hb => by have := HS.out b hb; show b ≠ T; omega))
  have HZ := Lib.hid (HZ.out.other (p := ⟨T, 11, none⟩) (by show w.heap.size ≠ T; omega) (.bool true))
  have HU := Lib.hid (HU.out.other (p := ⟨T, 11, none⟩) (by show w.heap.size + 1 ≠ T; omega) (.bool true))
  have HB := Lib.hid (HB.out.setCell (p := ⟨T, 11, none⟩) (by show w.heap.size ≤ T; omega) (.bool true))
  have HX := Lib.hid (HX.out.put 12 (.bool lt) rfl)
  have HBS := Lib.hid (HBS.out.put (p := ⟨T, 12, none⟩) (.bool lt) (fun b hb => by have := HS.out b hb; show b ≠ T; omega))
  have HZ := Lib.hid (HZ.out.other (p := ⟨T, 12, none⟩) (by show w.heap.size ≠ T; omega) (.bool lt))
  have HU := Lib.hid (HU.out.other (p := ⟨T, 12, none⟩) (by show w.heap.size + 1 ≠ T; omega) (.bool lt))
  have HB := Lib.hid (HB.out.setCell (p := ⟨T, 12, none⟩) (by show w.heap.size ≤ T; omega) (.bool lt))
  generalize (((((((((((((w4.setCell ⟨T, 0, none⟩ (.string nm)).setCell ⟨T, 1, none⟩ (.int .i64 ty)).setCell ⟨T, 2, none⟩ (.int .i64 tmo)).setCell ⟨T, 3, none⟩ (.int .i64 td)).setCell ⟨T, 4, none⟩ (.int .i64 th)).setCell ⟨T, 5, none⟩ (.int .i64 tmi)).setCell ⟨T, 6, none⟩ (.int .i64 ts)).setCell ⟨T, 7, none⟩ (.int .i64 (me : Nat))).setCell ⟨T, 8, none⟩ (.int .u32 (cr : Nat))).setCell ⟨T, 9, none⟩ (.int .i64 (pk : Nat))).setCell ⟨T, 10, none⟩ (.int .i64 (sz : Nat))).setCell ⟨T, 11, none⟩ (.bool true)).setCell ⟨T, 12, none⟩ (.bool lt)) = w8 at HX HBS HZ HU HB ⊢
  refine (HN10.out _ HBS.out).mono ?_
  rintro e w9 ⟨rfl, rfl⟩
  have hlX9 := HX.out.lt
  have x0 := HX.out.cell 0
  have x1 := HX.out.cell 1
  have x2 := HX.out.cell 2
  have x3 := HX.out.cell 3
  have x4 := HX.out.cell 4
  have x5 := HX.out.cell 5
  have x6 := HX.out.cell 6
  have x7 := HX.out.cell 7
  have x8 := HX.out.cell 8
  have x9 := HX.out.cell 9
  have x10 := HX.out.cell 10
  have x11 := HX.out.cell 11
  have x12 := HX.out.cell 12
  have fx0 := HX.out.free 0
  have fx1 := HX.out.free 1
  have fx2 := HX.out.free 2
  have fx3 := HX.out.free 3
  have fx4 := HX.out.free 4
  have fx5 := HX.out.free 5
  have fx6 := HX.out.free 6
  have fx7 := HX.out.free 7
  have fx8 := HX.out.free 8
  have fx9 := HX.out.free 9
  have fx10 := HX.out.free 10
  have fx11 := HX.out.free 11
  have fx12 := HX.out.free 12
  simp at x0 x1 x2 x3 x4 x5 x6 x7 x8 x9 x10 x11 x12
  go_wp2_with fail
  go_loopw [11] (fun i wr => ∃ (j : Nat), j ≤ 3 ∧ i = .int .i64 (j : Nat) ∧ wr = w8 ∧ Hid (∀ q, q < j → num ((bs.drop (a50 + 8 * q)).take 8) ≤ 8589934592)) (fun i _ => 3 - (intOf i).toNat)
  case atStart => exact ⟨0, by omega, rfl, rfl, Lib.hid (fun q hq => by omega)⟩
  case round =>
    obtain ⟨j, hj, rfl, rfl, HJ⟩ := hrel
    by_cases hlt3 : j < 3
    · have h1 : (0 : Int) ≤ (j : Int) := by omega
      have h2 : (j : Int) < 3 := by omega
      have h3 : ((j : Int)).toNat = j := by omega
      have hA5 := HA5.out
      obtain ⟨o, ho⟩ : ∃ o, a50 + 8 * j = o := ⟨_, rfl⟩
      obtain ⟨o8, ho8⟩ : ∃ o8, o + 8 = o8 := ⟨_, rfl⟩
      have m0 : IntKind.i64.wrap (8 * (j : Int)) = 8 * (j : Int) := IntWalk.i64_in _ (by omega)
      have m1 : IntKind.i64.wrap ((a50 : Int) + 8 * (j : Int)) = (o : Int) := by rw [IntWalk.i64_in _ (by omega)]; omega
      have m1' : (a50 : Int) + 8 * (j : Int) = (o : Int) := by omega
      have m2 : IntKind.i64.wrap ((a58 : Int) + 8 * (j : Int)) = (o8 : Int) := by rw [IntWalk.i64_in _ (by omega)]; omega
      have m2' : (a58 : Int) + 8 * (j : Int) = (o8 : Int) := by omega
      have m3' : (o : Int) ≤ (o8 : Int) := by omega
      have m4 : (o8 : Int) ≤ (c : Int) := by omega
      have m5 : o8 - o = 8 := by omega
      have m6 : ¬ c = o := by omega
      have HO := Lib.hid ho
      have HO8 : Hid (o + 8 ≤ n) := Lib.hid (by omega)
      obtain ⟨V, hV⟩ : ∃ V, num ((bs.drop o).take 8) = V := ⟨_, rfl⟩
      have HV := Lib.hid hV
      clear ho ho8 hV hA5
      go_wp2_with fail
      refine (HG.out o V _ HBS.out HO8.out HV.out _).mono ?_
      rintro e w9 ⟨rfl, rfl⟩
      by_cases hbg : 8589934592 < V
      · exact absurd hbg (by have := HNO.out j hlt3; rw [HO.out, HV.out] at this; omega)
      · have g1 : decide (8589934592 < V) = false := decide_eq_false hbg
        have g1' : decide ((8589934592 : Int) < (V : Int)) = false := decide_eq_false (by omega)
        have HJ2 : Hid (∀ q, q < j + 1 → num ((bs.drop (a50 + 8 * q)).take 8) ≤ 8589934592) := Lib.hid (fun q hq => by
          by_cases hqj : q = j
          · subst hqj
            rw [HO.out, HV.out]
            omega
          · exact HJ.out q (by omega))
        clear hbg
        go_wp2
        first
          | exact ⟨⟨j + 1, by omega, by simp, trivial, HJ2⟩, by show 3 - ((j : Int) + 1).toNat < 3 - ((j : Int)).toNat; omega⟩
          | exact ⟨⟨_, j + 1, by omega, by simp, trivial, HJ2⟩, by show 3 - ((j : Int) + 1).toNat < 3 - ((j : Int)).toNat; omega⟩
          | exact ⟨⟨_, _, j + 1, by omega, by simp, trivial, HJ2⟩, by show 3 - ((j : Int) + 1).toNat < 3 - ((j : Int)).toNat; omega⟩
          | exact ⟨⟨_, _, _, j + 1, by omega, by simp, trivial, HJ2⟩, by show 3 - ((j : Int) + 1).toNat < 3 - ((j : Int)).toNat; omega⟩
          | exact ⟨⟨_, _, _, _, j + 1, by omega, by simp, trivial, HJ2⟩, by show 3 - ((j : Int) + 1).toNat < 3 - ((j : Int)).toNat; omega⟩
          | exact ⟨⟨_, _, _, _, _, j + 1, by omega, by simp, trivial, HJ2⟩, by show 3 - ((j : Int) + 1).toNat < 3 - ((j : Int)).toNat; omega⟩
          | exact ⟨⟨_, _, _, _, _, _, j + 1, by omega, by simp, trivial, HJ2⟩, by show 3 - ((j : Int) + 1).toNat < 3 - ((j : Int)).toNat; omega⟩
          | exact ⟨⟨_, _, _, _, _, _, _, j + 1, by omega, by simp, trivial, HJ2⟩, by show 3 - ((j : Int) + 1).toNat < 3 - ((j : Int)).toNat; omega⟩
          | exact ⟨⟨_, _, _, _, _, _, _, _, j + 1, by omega, by simp, trivial, HJ2⟩, by show 3 - ((j : Int) + 1).toNat < 3 - ((j : Int)).toNat; omega⟩
          | exact ⟨⟨_, _, _, _, _, _, _, _, _, j + 1, by omega, by simp, trivial, HJ2⟩, by show 3 - ((j : Int) + 1).toNat < 3 - ((j : Int)).toNat; omega⟩
          | exact ⟨⟨_, _, _, _, _, _, _, _, _, _, j + 1, by omega, by simp, trivial, HJ2⟩, by show 3 - ((j : Int) + 1).toNat < 3 - ((j : Int)).toNat; omega⟩
          | exact ⟨⟨_, _, _, _, _, _, _, _, _, _, _, j + 1, by omega, by simp, trivial, HJ2⟩, by show 3 - ((j : Int) + 1).toNat < 3 - ((j : Int)).toNat; omega⟩
          | exact ⟨⟨_, _, _, _, _, _, _, _, _, _, _, _, j + 1, by omega, by simp, trivial, HJ2⟩, by show 3 - ((j : Int) + 1).toNat < 3 - ((j : Int)).toNat; omega⟩
          | exact ⟨⟨_, _, _, _, _, _, _, _, _, _, _, _, _, j + 1, by omega, by simp, trivial, HJ2⟩, by show 3 - ((j : Int) + 1).toNat < 3 - ((j : Int)).toNat; omega⟩
          | exact ⟨⟨_, _, _, _, _, _, _, _, _, _, _, _, _, _, j + 1, by omega, by simp, trivial, HJ2⟩, by show 3 - ((j : Int) + 1).toNat < 3 - ((j : Int)).toNat; omega⟩
          | exact ⟨⟨_, _, _, _, _, _, _, _, _, _, _, _, _, _, _, j + 1, by omega, by simp, trivial, HJ2⟩, by show 3 - ((j : Int) + 1).toNat < 3 - ((j : Int)).toNat; omega⟩
    · obtain rfl : j = 3 := by omega
      have hlX := HX.out.lt
      go_wp2_with fail
      refine (HN11.out _ HBS.out).mono ?_
      rintro e w9 ⟨rfl, rfl⟩
      go_wp2_with fail
      refine (HN12.out _ HBS.out).mono ?_
      rintro e w9 ⟨rfl, rfl⟩
      go_wp2_with fail
      refine (HN13.out _ HBS.out).mono ?_
      rintro e w9 ⟨rfl, rfl⟩
      go_upto_region 17 with fail
      have HX := Lib.hid (HX.out.put 10 (.int .i64 (z8 : Nat)) rfl)
      have HBS := Lib.hid (HBS.out.put (p := ⟨T, 10, none⟩) (.int .i64 (z8 : Nat)) (fun b hb => by have := HS.out b hb; show b ≠ T; omega))
      have HZ := Lib.hid (HZ.out.other (p := ⟨T, 10, none⟩) (by show w.heap.size ≠ T; omega) (.int .i64 (z8 : Nat)))
      have HU := Lib.hid (HU.out.other (p := ⟨T, 10, none⟩) (by show w.heap.size + 1 ≠ T; omega) (.int .i64 (z8 : Nat)))
      have HB := Lib.hid (HB.out.setCell (p := ⟨T, 10, none⟩) (by show w.heap.size ≤ T; omega) (.int .i64 (z8 : Nat)))
      have HX := Lib.hid (HX.out.put 9 (.int .i64 (p8 : Nat)) rfl)
      have HBS := Lib.hid (HBS.out.put (p := ⟨T, 9, none⟩) (.int .i64 (p8 : Nat)) (fun b hb => by have := HS.out b hb; show b ≠ T; omega))
      have HZ := Lib.hid (HZ.out.other (p := ⟨T, 9, none⟩) (by show w.heap.size ≠ T; omega) (.int .i64 (p8 : Nat)))
      have HU := Lib.hid (HU.out.other (p := ⟨T, 9, none⟩) (by show w.heap.size + 1 ≠ T; omega) (.int .i64 (p8 : Nat)))
      have HB := Lib.hid (HB.out.setCell (p := ⟨T, 9, none⟩) (by show w.heap.size ≤ T; omega) (.int .i64 (p8 : Nat)))
      generalize ((wr.setCell ⟨T, 10, none⟩ (.int .i64 (z8 : Nat))).setCell ⟨T, 9, none⟩ (.int .i64 (p8 : Nat))) = w8b at HX HBS HZ HU HB ⊢
      have x0 := HX.out.cell 0
      have x1 := HX.out.cell 1
      have x2 := HX.out.cell 2
      have x3 := HX.out.cell 3
      have x4 := HX.out.cell 4
      have x5 := HX.out.cell 5
      have x6 := HX.out.cell 6
      have x7 := HX.out.cell 7
      have x8 := HX.out.cell 8
      have x9 := HX.out.cell 9
      have x10 := HX.out.cell 10
      have x11 := HX.out.cell 11
      have x12 := HX.out.cell 12
      simp at x0 x1 x2 x3 x4 x5 x6 x7 x8 x9 x10 x11 x12
      go_wp2_with fail
      refine (HCK.out _).mono ?_
      rintro e w7 ⟨rfl, hb7⟩
      have HB := Lib.hid (HB.out.trans (hb7.mono HB.out.size))
      have HX := Lib.hid (HX.out.below' hb7)
      have HZ := Lib.hid (HZ.out.below' hb7)
      have HU := Lib.hid (HU.out.below' hb7)
      have HBS := Lib.hid (HBS.out.below hb7)
      clear hb7
      have zc0 := HZ.out.cell 0
      have zc1 := HZ.out.cell 1
      have zc2 := HZ.out.cell 2
      have zc3 := HZ.out.cell 3
      have zc4 := HZ.out.cell 4
      have zc5 := HZ.out.cell 5
      have zc6 := HZ.out.cell 6
      have zc7 := HZ.out.cell 7
      have zc8 := HZ.out.cell 8
      have zc9 := HZ.out.cell 9
      have zc10 := HZ.out.cell 10
      have zc11 := HZ.out.cell 11
      have zc12 := HZ.out.cell 12
      have fzc0 := HZ.out.free 0
      have fzc1 := HZ.out.free 1
      have fzc2 := HZ.out.free 2
      have fzc3 := HZ.out.free 3
      have fzc4 := HZ.out.free 4
      have fzc5 := HZ.out.free 5
      have fzc6 := HZ.out.free 6
      have fzc7 := HZ.out.free 7
      have fzc8 := HZ.out.free 8
      have fzc9 := HZ.out.free 9
      have fzc10 := HZ.out.free 10
      have fzc11 := HZ.out.free 11
      have fzc12 := HZ.out.free 12
      simp at zc0 zc1 zc2 zc3 zc4 zc5 zc6 zc7 zc8 zc9 zc10 zc11 zc12
      have u0 := HU.out.cell 0
      have u1 := HU.out.cell 1
      have u2 := HU.out.cell 2
      have u3 := HU.out.cell 3
      have u4 := HU.out.cell 4
      have u5 := HU.out.cell 5
      have u6 := HU.out.cell 6
      have u7 := HU.out.cell 7
      have u8 := HU.out.cell 8
      have u9 := HU.out.cell 9
      have u10 := HU.out.cell 10
      have u11 := HU.out.cell 11
      have u12 := HU.out.cell 12
      simp at u0 u1 u2 u3 u4 u5 u6 u7 u8 u9 u10 u11 u12
      have hlZ9 := HZ.out.lt
      have hlU9 := HU.out.lt
      have HM := Lib.hid ((((((((((((((HZ.out.put 0 (.string ⟨#[]⟩) rfl).put 1 (.int .i64 0) rfl).put 2 (.int .i64 0) rfl).put 3 (.int .i64 0) rfl).put 4 (.int .i64 0) rfl).put 5 (.int .i64 0) rfl).put 6 (.int .i64 0) rfl).put 7 (.int .i64 0) rfl).put 8 (.int .u32 0) rfl).put 9 (.int .i64 0) rfl).put 10 (.int .i64 0) rfl).put 11 (.bool false) rfl).put 12 (.bool false) rfl))
      have h0 := HM.out.cell 0
      have h1 := HM.out.cell 1
      have h2 := HM.out.cell 2
      have h3 := HM.out.cell 3
      have h4 := HM.out.cell 4
      have h5 := HM.out.cell 5
      have h6 := HM.out.cell 6
      have h7 := HM.out.cell 7
      have h8 := HM.out.cell 8
      have h9 := HM.out.cell 9
      have h10 := HM.out.cell 10
      have h11 := HM.out.cell 11
      have h12 := HM.out.cell 12
      simp at h0 h1 h2 h3 h4 h5 h6 h7 h8 h9 h10 h11 h12
      go_wp2
      simp [bodyPost, results, Tryd.results13, go_sem, h0, h1, h2, h3, h4, h5, h6, h7, h8, h9, h10, h11, h12]
      exact ⟨rfl, (((((((((((((HB.out.setCell (by show w.heap.size ≤ w.heap.size; omega) _).setCell (by show w.heap.size ≤ w.heap.size; omega) _).setCell (by show w.heap.size ≤ w.heap.size; omega) _).setCell (by show w.heap.size ≤ w.heap.size; omega) _).setCell (by show w.heap.size ≤ w.heap.size; omega) _).setCell (by show w.heap.size ≤ w.heap.size; omega) _).setCell (by show w.heap.size ≤ w.heap.size; omega) _).setCell (by show w.heap.size ≤ w.heap.size; omega) _).setCell (by show w.heap.size ≤ w.heap.size; omega) _).setCell (by show w.heap.size ≤ w.heap.size; omega) _).setCell (by show w.heap.size ≤ w.heap.size; omega) _).setCell (by show w.heap.size ≤ w.heap.size; omega) _).setCell (by show w.heap.size ≤ w.heap.size; omega) _)⟩
end Go.Proofs.YtdmglpnieiiigaaDoor
