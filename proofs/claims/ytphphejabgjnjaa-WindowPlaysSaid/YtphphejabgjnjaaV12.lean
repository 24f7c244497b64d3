/- One call of the window and the page's: Back. -/
import Derived.Test.YtphphejabgjnjaaV11
namespace Go.Proofs.Ytphphejabgjnjaa
open Go.RowKit

set_option maxHeartbeats 4000000 in
set_option maxRecDepth 100000 in
theorem do2 (g n c m dc mn : Nat) (A B : Option Addr) (all data : List UInt8) (K D N : Int) (w : World) (hW : Wnd w g all) (hA : Bs w (fun b => b ≠ g) A n all) (hnc : n ≤ c) (hB : Bs w (fun b => b ≠ g) B m data) (hn : n ≤ 10000000) (hm : m ≤ 4000) (hmn : min n 32768 = mn)  (f0 : (K == 0) = false) (f1 : (K == 1) = false) (f2 : (K == 2) = true) : Calls Try.prog 8 #[.pointer (some ⟨g, 0, none⟩), .slice A n c, .agg #[.int .i64 K, .int .i64 D, .int .i64 N, .slice B m dc]] w (DoP g n w) := by
  obtain ⟨i0, hi, hz0, hz1, hz2⟩ := info_parts info5
  simp only at hz0 hz1 hz2
  have hgl := hW.lt
  have hlen := hA.len
  have hlen2 := hB.len
  have T1 := Lib.hid (Whole.new w 31 #[.int .i64 K, .int .i64 D, .int .i64 N, .slice B m dc] rfl)
  have HBx := Lib.hid ((Below.refl w.heap.size w).alloc (Nat.le_refl _) (.cells #[.int .i64 K, .int .i64 D, .int .i64 N, .slice B m dc] 31))
  have HW := Lib.hid (hW.below HBx.out)
  have HA := Lib.hid (hA.below HBx.out)
  have HB := Lib.hid (hB.below HBx.out)
  have HX := Lib.hid (Alone.of_below HBx.out g)
  have HRL := Lib.hid (rlen_any A n c (w.alloc (.cells #[.int .i64 K, .int .i64 D, .int .i64 N, .slice B m dc] 31)) (by omega))
  have x0 := T1.out.cell 0
  have x1 := T1.out.cell 1
  have x2 := T1.out.cell 2
  have x3 := T1.out.cell 3
  rw [hmn] at HRL
  have HLEN := Lib.hid hlen
  have HLEN2 := Lib.hid hlen2
  have HMN := Lib.hid hmn
  clear hW hA hB hlen hlen2 hmn
  go_enter Try.func8, Try.ntmps8
  go_wp2_with fail
  refine HRL.out.mono ?_
  rintro e wz ⟨rfl, rfl⟩
  clear HRL
  have HC := Lib.hid hnc
  clear hnc
  by_cases hd : inD all D = false
  · have HCD := Lib.hid (back_no g D all (w.alloc (.cells #[.int .i64 K, .int .i64 D, .int .i64 N, .slice B m dc] 31)) HW.out (by rw [HLEN.out]; omega) hd)
    have hdd : decide (1 ≤ D) = false ∨ (decide (1 ≤ D) = true ∧ decide (D ≤ (mn : Nat)) = false) := by
      unfold inD wlen at hd
      rw [HLEN.out, HMN.out] at hd
      cases h1 : decide (1 ≤ D)
      · exact .inl rfl
      · rw [h1] at hd
        exact .inr ⟨rfl, hd⟩
    clear hd
    rcases hdd with i1 | ⟨i1, i2⟩
    all_goals
      go_wp2_with fail
      refine HCD.out.mono ?_
      rintro e wz ⟨rfl, rfl⟩
      go_wp2
      go_ret2
      exact ⟨A, n, c, all, rfl, HA.out, HC.out, HW.out, HX.out, by omega⟩
  · obtain ⟨i1, i2⟩ : decide (1 ≤ D) = true ∧ decide (D ≤ (mn : Nat)) = true := by
      rcases dc3 D mn with h | h | h
      · exact absurd (inD_false all D n mn HLEN.out HMN.out (.inl h)) hd
      · exact absurd (inD_false all D n mn HLEN.out HMN.out (.inr h)) hd
      · exact h
    clear hd
    have j1 : 1 ≤ D := by simpa using i1
    have j2 : D ≤ (mn : Nat) := by simpa using i2
    obtain ⟨d, rfl⟩ := Int.eq_ofNat_of_zero_le (show 0 ≤ D by omega)
    have hw : wlen all = mn := by unfold wlen; rw [HLEN.out]; exact HMN.out
    have hmn2 := HMN.out
    have hdn : d ≤ n := by omega
    have hd1 : 1 ≤ d := by omega
    have HBY := back_yes g d all (w.alloc (.cells #[.int .i64 K, .int .i64 (d : Nat), .int .i64 N, .slice B m dc] 31)) HW.out (by rw [HLEN.out]; omega) hd1 (by rw [hw]; omega)
    obtain ⟨b, off, rfl, hb1, hb2, hc⟩ := HA.out.at_ (i := n - d) (by omega)
    rw [HLEN.out] at HBY
    obtain ⟨x, hx⟩ : ∃ x, all.getD (n - d) 0 = x := ⟨_, rfl⟩
    rw [hx] at HBY hc
    obtain ⟨p, hp⟩ : ∃ p, n - d = p := ⟨_, rfl⟩
    rw [hp] at hc
    have e1 : IntKind.i64.wrap ((n : Int) - (d : Int)) = (p : Int) := by rw [IntWalk.i64_in _ (by omega)]; omega
    have hpn : (p : Int) < (n : Int) := by omega
    have hp0 : (0 : Int) ≤ (p : Int) := by omega
    obtain ⟨x', hx'⟩ : ∃ x' : Nat, x.toNat = x' := ⟨_, rfl⟩
    unfold bv at hc
    rw [hx'] at hc HBY
    have HBY := Lib.hid HBY
    have i2' : decide (d ≤ mn) = true := by simp; omega
    have i1' : decide (1 ≤ d) = true := by simp; omega
    clear j1 j2 hw hmn2 hx hx' hp
    go_wp2_with fail
    refine HBY.out.mono ?_
    rintro e w2 ⟨rfl, k, rfl⟩
    go_wp2
    go_quiet (fail)
    go_wp2
    go_ret2
    exact ⟨_, n, c, all, rfl, HA.out, HC.out, HW.out, HX.out, by omega⟩
end Go.Proofs.Ytphphejabgjnjaa
