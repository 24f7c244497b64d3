/- One call of the window and the page's: Copy. -/
import Derived.Test.YtphphejabgjnjaaV10
namespace Go.Proofs.Ytphphejabgjnjaa
open Go.RowKit

theorem inD_false (all : List UInt8) (D : Int) (n mn : Nat) (hl : all.length = n) (hmn : min n 32768 = mn) (h : decide (1 ≤ D) = false ∨ (decide (1 ≤ D) = true ∧ decide (D ≤ (mn : Nat)) = false)) : inD all D = false := by
  unfold inD wlen
  rw [hl, hmn]
  rcases h with h | ⟨h1, h2⟩
  · rw [h]; rfl
  · rw [h1, h2]; rfl
set_option maxHeartbeats 4000000 in
set_option maxRecDepth 100000 in
theorem do1 (g n c m dc mn : Nat) (A B : Option Addr) (all data : List UInt8) (K D N : Int) (w : World) (hW : Wnd w g all) (hA : Bs w (fun b => b ≠ g) A n all) (hnc : n ≤ c) (hB : Bs w (fun b => b ≠ g) B m data) (hn : n ≤ 10000000) (hm : m ≤ 4000) (hmn : min n 32768 = mn) (hN : N ≤ 40000 ∨ 1048576 < N)  (f0 : (K == 0) = false) (f1 : (K == 1) = true) : Calls Try.prog 8 #[.pointer (some ⟨g, 0, none⟩), .slice A n c, .agg #[.int .i64 K, .int .i64 D, .int .i64 N, .slice B m dc]] w (DoP g n w) := by
  obtain ⟨i0, hi, hz0, hz1, hz2⟩ := info_parts info5
  simp only at hz0 hz1 hz2
  have hgl := hW.lt
  have hlen := hA.len
  have hlen2 := hB.len
  have T1 := Lib.hid (Whole.new w 31 #[.int .i64 K, .int .i64 D, .int .i64 N, .slice B m dc] rfl)
  have HBx := Lib.hid ((Below.refl w.heap.size w).alloc (Nat.le_refl _) (.cells #[.int .i64 K, .int .i64 D, .int .i64 N, .slice B m dc] 31))
  have HW := Lib.hid (hW.below HBx.out)
  have HA := Lib.hid (hA.below HBx.out)
  have HB := Lib.hid (hB.below HBx.out)
  have HX := Lib.hid (Alone.of_below HBx.out g)
  have HRL := Lib.hid (rlen_any A n c (w.alloc (.cells #[.int .i64 K, .int .i64 D, .int .i64 N, .slice B m dc] 31)) (by omega))
  have x0 := T1.out.cell 0
  have x1 := T1.out.cell 1
  have x2 := T1.out.cell 2
  have x3 := T1.out.cell 3
  rw [hmn] at HRL
  have HLEN := Lib.hid hlen
  have HLEN2 := Lib.hid hlen2
  have HMN := Lib.hid hmn
  clear hW hA hB hlen hlen2 hmn
  go_enter Try.func8, Try.ntmps8
  go_wp2_with fail
  refine HRL.out.mono ?_
  rintro e wz ⟨rfl, rfl⟩
  clear HRL
  have HC := Lib.hid hnc
  clear hnc
  by_cases hb : N < 0 ∨ 1048576 < N
  · have HCA := Lib.hid (copy_arg g D N (w.alloc (.cells #[.int .i64 K, .int .i64 D, .int .i64 N, .slice B m dc] 31)) hb)
    by_cases hb1 : N < 0
    · have e1 : decide (N < 0) = true := by simpa using hb1
      clear hb hb1 hN
      rcases dc3 D mn with i1 | ⟨i1, i2⟩ | ⟨i1, i2⟩
      all_goals
        go_wp2_with fail
        refine HCA.out.mono ?_
        rintro e wz ⟨rfl, rfl⟩
        go_wp2
        go_ret2
        exact ⟨A, n, c, all, rfl, HA.out, HC.out, HW.out, HX.out, by omega⟩
    · have e1 : decide (N < 0) = false := by simpa using hb1
      have e2 : decide (1048576 < N) = true := by simp; omega
      clear hb hb1 hN
      rcases dc3 D mn with i1 | ⟨i1, i2⟩ | ⟨i1, i2⟩
      all_goals
        go_wp2_with fail
        refine HCA.out.mono ?_
        rintro e wz ⟨rfl, rfl⟩
        go_wp2
        go_ret2
        exact ⟨A, n, c, all, rfl, HA.out, HC.out, HW.out, HX.out, by omega⟩
  · have e1 : decide (N < 0) = false := by simp; omega
    have e2 : decide (1048576 < N) = false := by simp; omega
    have hN0 : 0 ≤ N ∧ N ≤ 40000 := by omega
    clear hN hb
    by_cases hd : inD all D = false
    · have HCD := Lib.hid (copy_dist g D N all (w.alloc (.cells #[.int .i64 K, .int .i64 D, .int .i64 N, .slice B m dc] 31)) HW.out (by rw [HLEN.out]; omega) (by omega) hd)
      have hdd : decide (1 ≤ D) = false ∨ (decide (1 ≤ D) = true ∧ decide (D ≤ (mn : Nat)) = false) := by
        unfold inD wlen at hd
        rw [HLEN.out, HMN.out] at hd
        cases h1 : decide (1 ≤ D)
        · exact .inl rfl
        · rw [h1] at hd
          exact .inr ⟨rfl, hd⟩
      clear hd hN0
      rcases hdd with i1 | ⟨i1, i2⟩
      all_goals
        go_wp2_with fail
        refine HCD.out.mono ?_
        rintro e wz ⟨rfl, rfl⟩
        go_wp2
        go_ret2
        exact ⟨A, n, c, all, rfl, HA.out, HC.out, HW.out, HX.out, by omega⟩
    · obtain ⟨i1, i2⟩ : decide (1 ≤ D) = true ∧ decide (D ≤ (mn : Nat)) = true := by
        rcases dc3 D mn with h | h | h
        · exact absurd (inD_false all D n mn HLEN.out HMN.out (.inl h)) hd
        · exact absurd (inD_false all D n mn HLEN.out HMN.out (.inr h)) hd
        · exact h
      clear hd
      have j1 : 1 ≤ D := by simpa using i1
      have j2 : D ≤ (mn : Nat) := by simpa using i2
      obtain ⟨d, rfl⟩ := Int.eq_ofNat_of_zero_le (show 0 ≤ D by omega)
      obtain ⟨k, rfl⟩ := Int.eq_ofNat_of_zero_le hN0.1
      have hw : wlen all = mn := by unfold wlen; rw [HLEN.out]; exact HMN.out
      have hmn2 := HMN.out
      have hdn : d ≤ n := by omega
      have hd1 : 1 ≤ d := by omega
      have hk4 : k ≤ 40000 := by omega
      have HCO := Lib.hid (copy_any g d k all (w.alloc (.cells #[.int .i64 K, .int .i64 (d : Nat), .int .i64 (k : Nat), .slice B m dc] 31)) HW.out hd1 (by rw [hw]; omega) (by omega) (by rw [HLEN.out]; omega))
      have i2' : decide (d ≤ mn) = true := by simp; omega
      have i1' : decide (1 ≤ d) = true := by simp; omega
      have e2' : decide (1048576 < k) = false := by simp; omega
      clear j1 j2 hN0 hw hmn2
      go_wp2_with fail
      refine HCO.out.mono ?_
      rintro e w2 ⟨q, rfl, hO, hV2, hA2⟩
      have HO := Lib.hid hO
      have HV2 := Lib.hid hV2
      have T2 := Lib.hid (hA2.whole T1.out (by omega))
      have HA2 := Lib.hid (alone_bs HA.out hA2 (fun b h => h))
      have HX2 := Lib.hid (HX.out.trans hA2)
      have hqs := hO.lt.2
      have hs2 : w.heap.size < w2.heap.size := by have := hA2.size; simp at this; omega
      clear hO hV2 hA2 x0 x1 x2 x3 HCO
      have x0 := T2.out.cell 0
      have x1 := T2.out.cell 1
      have x2 := T2.out.cell 2
      go_wp2_with fail
      refine (rcopy_any A n c d k all _ w2 HA2.out hn hd1 hdn (by omega)).mono ?_
      rintro e w3 ⟨g3, c3, B3, d3, rfl, hcc, hR, hR2, hb3⟩
      have k1 := fun z => str_of (w := w3.drewN z) k ((HO.out.bs.below hb3).drewN z)
      have k2 := fun z => str_of (w := w3.drewN z) d3 (hR2.drewN z)
      have HCC := Lib.hid hcc
      have HR := Lib.hid hR
      have HB3 := Lib.hid hb3
      have hgl2 : g < w2.heap.size := by omega
      clear hcc hR hR2 hb3 x0 x1 x2
      go_wp2
      go_quiet (fail)
      go_wp2
      go_ret2
      exact ⟨_, n + k, c3, cpy all d k, rfl, HR.out.mono (fun b h => by omega), HCC.out, HV2.out.below (HB3.out.drewN' _), HX2.out.trans (Alone.of_below (HB3.out.drewN' _) g), by omega⟩
end Go.Proofs.Ytphphejabgjnjaa
