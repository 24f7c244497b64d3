/- One call of the window and the page's: Last. -/
import Derived.Test.YtphphejabgjnjaaV12
namespace Go.Proofs.Ytphphejabgjnjaa
open Go.RowKit

set_option maxHeartbeats 4000000 in
set_option maxRecDepth 100000 in
theorem do3 (g n c m dc mn : Nat) (A B : Option Addr) (all data : List UInt8) (K D N : Int) (w : World) (hW : Wnd w g all) (hA : Bs w (fun b => b ≠ g) A n all) (hnc : n ≤ c) (hB : Bs w (fun b => b ≠ g) B m data) (hn : n ≤ 10000000) (hm : m ≤ 4000) (hmn : min n 32768 = mn)  (f0 : (K == 0) = false) (f1 : (K == 1) = false) (f2 : (K == 2) = false) (f3 : (K == 3) = true) : Calls Try.prog 8 #[.pointer (some ⟨g, 0, none⟩), .slice A n c, .agg #[.int .i64 K, .int .i64 D, .int .i64 N, .slice B m dc]] w (DoP g n w) := by
  obtain ⟨i0, hi, hz0, hz1, hz2⟩ := info_parts info5
  simp only at hz0 hz1 hz2
  have hgl := hW.lt
  have hlen := hA.len
  have hlen2 := hB.len
  have T1 := Lib.hid (Whole.new w 31 #[.int .i64 K, .int .i64 D, .int .i64 N, .slice B m dc] rfl)
  have HBx := Lib.hid ((Below.refl w.heap.size w).alloc (Nat.le_refl _) (.cells #[.int .i64 K, .int .i64 D, .int .i64 N, .slice B m dc] 31))
  have HW := Lib.hid (hW.below HBx.out)
  have HA := Lib.hid (hA.below HBx.out)
  have HB := Lib.hid (hB.below HBx.out)
  have HX := Lib.hid (Alone.of_below HBx.out g)
  have HRL := Lib.hid (rlen_any A n c (w.alloc (.cells #[.int .i64 K, .int .i64 D, .int .i64 N, .slice B m dc] 31)) (by omega))
  have x0 := T1.out.cell 0
  have x1 := T1.out.cell 1
  have x2 := T1.out.cell 2
  have x3 := T1.out.cell 3
  rw [hmn] at HRL
  have HLEN := Lib.hid hlen
  have HLEN2 := Lib.hid hlen2
  have HMN := Lib.hid hmn
  clear hW hA hB hlen hlen2 hmn
  go_enter Try.func8, Try.ntmps8
  go_wp2_with fail
  refine HRL.out.mono ?_
  rintro e wz ⟨rfl, rfl⟩
  clear HRL
  have HC := Lib.hid hnc
  obtain ⟨w1, hw1⟩ : ∃ w1, w.alloc (.cells #[.int .i64 K, .int .i64 D, .int .i64 N, .slice B m dc] 31) = w1 := ⟨_, rfl⟩
  have hs1 : w.heap.size < w1.heap.size := by rw [← hw1]; simp
  rw [hw1] at T1 HBx HW HA HB HX x0 x1 x2 x3 ⊢
  obtain ⟨k, hk⟩ : ∃ k, lastK all N = k := ⟨_, rfl⟩
  obtain ⟨r, hr⟩ : ∃ r, min N (mn : Nat) = r := ⟨_, rfl⟩
  have hmn2 := HMN.out
  have hkr : max r 0 = (k : Int) := by
    rw [← hr, ← hk]
    unfold lastK wlen
    rw [HLEN.out, hmn2]
    omega
  have ya : (if (mn : Int) < N then (mn : Int) else N) = r := by rw [← hr]; split <;> omega
  have yc : (if r < 0 then (0 : Int) else r) = k := by rw [← hkr]; split <;> omega
  have yd : (if 0 < r then r else (0 : Int)) = k := by rw [← hkr]; split <;> omega
  have hkn : k ≤ n := by omega
  have HLA := Lib.hid (fun w' (hb : Below w1.heap.size w1 w') => by
    have h := last_any g N all w' (HW.out.below hb) (by rw [HLEN.out]; omega)
    rw [hk] at h
    unfold LastP at h
    rw [HLEN.out] at h
    exact h)
  obtain ⟨bs, hbs⟩ : ∃ bs, all.drop (n - k) = bs := ⟨_, rfl⟩
  rw [hbs] at HLA
  obtain ⟨s, hs⟩ : ∃ s, n - k = s := ⟨_, rfl⟩
  have e1 : IntKind.i64.wrap ((n : Int) - (k : Int)) = (s : Int) := by rw [IntWalk.i64_in _ (by omega)]; omega
  have hsn : (s : Int) ≤ (n : Int) := by omega
  have hs0 : (0 : Int) ≤ (s : Int) := by omega
  have hsk : n - s = k := by omega
  have hsk' : ((n : Int) - (s : Int)) = (k : Int) := by omega
  have hsc : (s : Int) ≤ (c : Int) := by omega
  have hsn' : s ≤ n := by omega
  rw [hs] at hbs
  clear hw1 hr hmn2 hk hkn hs
  rcases dc3 D mn with i1 | ⟨i1, i2⟩ | ⟨i1, i2⟩
  all_goals
    by_cases hk0 : k = 0
    · subst hk0
      clear hkr
      obtain rfl : s = n := by omega
      have hb0 : bs = [] := by rw [← hbs]; exact List.drop_eq_nil_of_le (by rw [HLEN.out]; exact Nat.le_refl _)
      have HFB := Lib.hid (fun w' (A : Option Addr) (_ : Below w1.heap.size w1 w') => (show Bs w' (fun _ => True) A 0 bs from by rw [hb0]; exact Bs.empty _ _ _))
      clear hb0 hsk hsk' hs0 hsn hsn' hbs
      by_cases hcs : c = s
      · subst hcs
        clear hnc hsc
        rcases A with _ | a
        all_goals
          go_wp2
          refine wp_region_free (by kernel_rfl) (by kernel_rfl) (by kernel_rfl) ?_
          iterate 4 (first | (refine free_skip rfl rfl ?_; intro K hK; go_big_quiet_op; go_big_quiet_on) | (refine free_hard rfl rfl ?_; intro K hK; go_big_quiet_op; go_big_quiet_on))
          refine free_soft (ι := Option Addr × Nat) (fun i => .slice i.1 (0) i.2) (fun i w' => Bs w' (fun b => w1.heap.size ≤ b) i.1 (0) (bs)) rfl rfl rfl (fun _ => firm_bs) (fun w' hw' => ?_) (fun i => ?_)
          · have hb := hw'.1.below
            have HW := Lib.hid hw'
            clear hw'
            go_simp
            refine (HLA.out w' hb).mono ?_
            rintro e w2 ⟨q, rfl, ho, hb2⟩
            exact ⟨hb2, (some ⟨q, 0, none⟩, 0), rfl, (OwnB.bs ho).mono fun b h => by have := hb.size; omega⟩
          obtain ⟨A25, c25⟩ := i
          dsimp only
          intro K hK
          go_big_quiet_op
          go_big_quiet_on
          refine free_fact (.string ⟨bs.toArray⟩) rfl rfl rfl (fun w' hw' => ?_) ?_
          · have hf := str_of c25 (hw'.2 4 (by kernel_rfl)).1
            clear hw'
            go_simp
          intro K hK
          go_big_quiet_op
          go_big_quiet_on
          iterate 6 (first | (refine free_skip rfl rfl ?_; intro K hK; go_big_quiet_op; go_big_quiet_on) | (refine free_hard rfl rfl ?_; intro K hK; go_big_quiet_op; go_big_quiet_on))
          refine free_fact (.string ⟨bs.toArray⟩) rfl rfl rfl (fun w' hw' => ?_) ?_
          · have hf := fun A cc => str_of cc (HFB.out w' A hw'.1.below)
            clear hw'
            go_simp
          intro K hK
          go_big_quiet_op
          go_big_quiet_on
          iterate 3 (first | (refine free_skip rfl rfl ?_; intro K hK; go_big_quiet_op; go_big_quiet_on) | (refine free_hard rfl rfl ?_; intro K hK; go_big_quiet_op; go_big_quiet_on))
          refine free_nil ?_
          intro w30 hb30 hk30
          have HBB := Lib.hid hb30
          clear hb30 hk30
          go_wp2
          go_ret2
          exact ⟨_, _, _, all, rfl, HA.out.below HBB.out, HC.out, HW.out.below HBB.out, HX.out.trans (Alone.of_below HBB.out g), by omega⟩
      · have hcs' : ¬ s = c := fun e => hcs e.symm
        rcases A with _ | a
        all_goals
          go_wp2
          refine wp_region_free (by kernel_rfl) (by kernel_rfl) (by kernel_rfl) ?_
          iterate 4 (first | (refine free_skip rfl rfl ?_; intro K hK; go_big_quiet_op; go_big_quiet_on) | (refine free_hard rfl rfl ?_; intro K hK; go_big_quiet_op; go_big_quiet_on))
          refine free_soft (ι := Option Addr × Nat) (fun i => .slice i.1 (0) i.2) (fun i w' => Bs w' (fun b => w1.heap.size ≤ b) i.1 (0) (bs)) rfl rfl rfl (fun _ => firm_bs) (fun w' hw' => ?_) (fun i => ?_)
          · have hb := hw'.1.below
            have HW := Lib.hid hw'
            clear hw'
            go_simp
            refine (HLA.out w' hb).mono ?_
            rintro e w2 ⟨q, rfl, ho, hb2⟩
            exact ⟨hb2, (some ⟨q, 0, none⟩, 0), rfl, (OwnB.bs ho).mono fun b h => by have := hb.size; omega⟩
          obtain ⟨A25, c25⟩ := i
          dsimp only
          intro K hK
          go_big_quiet_op
          go_big_quiet_on
          refine free_fact (.string ⟨bs.toArray⟩) rfl rfl rfl (fun w' hw' => ?_) ?_
          · have hf := str_of c25 (hw'.2 4 (by kernel_rfl)).1
            clear hw'
            go_simp
          intro K hK
          go_big_quiet_op
          go_big_quiet_on
          iterate 6 (first | (refine free_skip rfl rfl ?_; intro K hK; go_big_quiet_op; go_big_quiet_on) | (refine free_hard rfl rfl ?_; intro K hK; go_big_quiet_op; go_big_quiet_on))
          refine free_fact (.string ⟨bs.toArray⟩) rfl rfl rfl (fun w' hw' => ?_) ?_
          · have hf := fun A cc => str_of cc (HFB.out w' A hw'.1.below)
            clear hw'
            go_simp
          intro K hK
          go_big_quiet_op
          go_big_quiet_on
          iterate 3 (first | (refine free_skip rfl rfl ?_; intro K hK; go_big_quiet_op; go_big_quiet_on) | (refine free_hard rfl rfl ?_; intro K hK; go_big_quiet_op; go_big_quiet_on))
          refine free_nil ?_
          intro w30 hb30 hk30
          have HBB := Lib.hid hb30
          clear hb30 hk30
          go_wp2
          go_ret2
          exact ⟨_, _, _, all, rfl, HA.out.below HBB.out, HC.out, HW.out.below HBB.out, HX.out.trans (Alone.of_below HBB.out g), by omega⟩
    · obtain rfl : r = (k : Int) := by omega
      clear hkr
      obtain ⟨b, off, rfl, -, -, -⟩ := HA.out.at_ (i := 0) (by omega)
      have hcut := HA.out.cut (k := s) (c := c) hsn' hnc
      rw [hsk, hbs] at hcut
      have hcs : ¬ c = s := by omega
      rw [if_neg hcs] at hcut
      have HFB := Lib.hid (fun w' (hb : Below w1.heap.size w1 w') => hcut.below hb)
      clear hcut
      go_wp2
      refine wp_region_free (by kernel_rfl) (by kernel_rfl) (by kernel_rfl) ?_
      iterate 4 (first | (refine free_skip rfl rfl ?_; intro K hK; go_big_quiet_op; go_big_quiet_on) | (refine free_hard rfl rfl ?_; intro K hK; go_big_quiet_op; go_big_quiet_on))
      refine free_soft (ι := Option Addr × Nat) (fun i => .slice i.1 (k) i.2) (fun i w' => Bs w' (fun b => w1.heap.size ≤ b) i.1 (k) (bs)) rfl rfl rfl (fun _ => firm_bs) (fun w' hw' => ?_) (fun i => ?_)
      · have hb := hw'.1.below
        have HW := Lib.hid hw'
        clear hw'
        go_simp
        refine (HLA.out w' hb).mono ?_
        rintro e w2 ⟨q, rfl, ho, hb2⟩
        exact ⟨hb2, (some ⟨q, 0, none⟩, k), rfl, (OwnB.bs ho).mono fun b h => by have := hb.size; omega⟩
      obtain ⟨A25, c25⟩ := i
      dsimp only
      intro K hK
      go_big_quiet_op
      go_big_quiet_on
      refine free_fact (.string ⟨bs.toArray⟩) rfl rfl rfl (fun w' hw' => ?_) ?_
      · have hf := str_of c25 (hw'.2 4 (by kernel_rfl)).1
        clear hw'
        go_simp
      intro K hK
      go_big_quiet_op
      go_big_quiet_on
      iterate 6 (first | (refine free_skip rfl rfl ?_; intro K hK; go_big_quiet_op; go_big_quiet_on) | (refine free_hard rfl rfl ?_; intro K hK; go_big_quiet_op; go_big_quiet_on))
      refine free_fact (.string ⟨bs.toArray⟩) rfl rfl rfl (fun w' hw' => ?_) ?_
      · have hf := str_of (c - s) (HFB.out w' hw'.1.below)
        clear hw'
        go_simp
      intro K hK
      go_big_quiet_op
      go_big_quiet_on
      iterate 3 (first | (refine free_skip rfl rfl ?_; intro K hK; go_big_quiet_op; go_big_quiet_on) | (refine free_hard rfl rfl ?_; intro K hK; go_big_quiet_op; go_big_quiet_on))
      refine free_nil ?_
      intro w30 hb30 hk30
      have HBB := Lib.hid hb30
      clear hb30 hk30
      go_wp2
      go_ret2
      exact ⟨_, _, _, all, rfl, HA.out.below HBB.out, HC.out, HW.out.below HBB.out, HX.out.trans (Alone.of_below HBB.out g), by omega⟩
end Go.Proofs.Ytphphejabgjnjaa
