/- One call of the window and the page's: Put, again and again. -/
import Derived.Test.YtphphejabgjnjaaV9
namespace Go.Proofs.Ytphphejabgjnjaa
open Go.RowKit

set_option maxHeartbeats 4000000 in
set_option maxRecDepth 100000 in
theorem do4 (g n c m dc mn : Nat) (A B : Option Addr) (all data : List UInt8) (K D N : Int) (w : World) (hW : Wnd w g all) (hA : Bs w (fun b => b ≠ g) A n all) (hnc : n ≤ c) (hB : Bs w (fun b => b ≠ g) B m data) (hn : n ≤ 10000000) (hm : m ≤ 4000) (hmn : min n 32768 = mn) (h20 : N ≤ 20)  (f0 : (K == 0) = false) (f1 : (K == 1) = false) (f2 : (K == 2) = false) (f3 : (K == 3) = false) (f4 : (K == 4) = true) : Calls Try.prog 8 #[.pointer (some ⟨g, 0, none⟩), .slice A n c, .agg #[.int .i64 K, .int .i64 D, .int .i64 N, .slice B m dc]] w (DoP g n w) := by
  obtain ⟨i0, hi, hz0, hz1, hz2⟩ := info_parts info5
  simp only at hz0 hz1 hz2
  have hgl := hW.lt
  have hlen := hA.len
  have hlen2 := hB.len
  have T1 := Lib.hid (Whole.new w 31 #[.int .i64 K, .int .i64 D, .int .i64 N, .slice B m dc] rfl)
  have HBx := Lib.hid ((Below.refl w.heap.size w).alloc (Nat.le_refl _) (.cells #[.int .i64 K, .int .i64 D, .int .i64 N, .slice B m dc] 31))
  have HW := Lib.hid (hW.below HBx.out)
  have HA := Lib.hid (hA.below HBx.out)
  have HB := Lib.hid (hB.below HBx.out)
  have HX := Lib.hid (Alone.of_below HBx.out g)
  have HRL := Lib.hid (rlen_any A n c (w.alloc (.cells #[.int .i64 K, .int .i64 D, .int .i64 N, .slice B m dc] 31)) (by omega))
  have x0 := T1.out.cell 0
  have x1 := T1.out.cell 1
  have x2 := T1.out.cell 2
  have x3 := T1.out.cell 3
  rw [hmn] at HRL
  have HLEN := Lib.hid hlen
  have HLEN2 := Lib.hid hlen2
  have HMN := Lib.hid hmn
  clear hW hA hB hlen hlen2 hmn
  go_enter Try.func8, Try.ntmps8
  go_wp2_with fail
  refine HRL.out.mono ?_
  rintro e wz ⟨rfl, rfl⟩
  clear HRL
  obtain ⟨w1, hw1⟩ : ∃ w1, w.alloc (.cells #[.int .i64 K, .int .i64 D, .int .i64 N, .slice B m dc] 31) = w1 := ⟨_, rfl⟩
  have hs1 : w.heap.size < w1.heap.size := by rw [← hw1]; simp
  rw [hw1] at T1 HBx HW HA HB HX x0 x1 x2 x3 ⊢
  have HN1 := Lib.hid hnc
  clear hw1 hnc
  rcases dc3 D mn with i1 | ⟨i1, i2⟩ | ⟨i1, i2⟩
  all_goals
    go_wp2
    clear x0 x1 x2 x3
    go_loopw [1, 17] (fun a i wr => ∃ (j : Nat) (A' : Option Addr) (n' c' : Nat) (all' : List UInt8), j ≤ 20 ∧ i = .int .i64 (j : Nat) ∧ a = .slice A' n' c' ∧ n' ≤ n + 4000 * j ∧ Hid (n' ≤ c') ∧ Hid (Bs wr (fun b => b ≠ g) A' n' all') ∧ Hid (Wnd wr g all') ∧ Hid (Alone w1 wr g)) (fun _ i _ => 20 - (intOf i).toNat)
    case atStart => exact ⟨0, A, n, c, all, by omega, rfl, rfl, by omega, HN1, HA, HW, Lib.hid (Alone.refl _ _)⟩
    case round =>
      obtain ⟨j, A', n', c', all', hj, rfl, rfl, hn', HN', HA', HW', HX'⟩ := hrel
      have T' := Lib.hid (HX'.out.whole T1.out (by omega))
      have HB' := Lib.hid (alone_bs HB.out HX'.out (fun b h => h))
      have x2 := T'.out.cell 2
      have x3 := T'.out.cell 3
      have hsr : w.heap.size < wr.heap.size := by have := HX'.out.size; omega
      have HL' := Lib.hid HA'.out.len
      by_cases hlt : (j : Int) < N
      · have dk : decide ((j : Int) < N) = true := by simpa using hlt
        have hn2 : n' ≤ 10100000 := by omega
        have hj20 : j < 20 := by omega
        clear hlt
        go_wp2_with fail
        refine (put_any g m dc B all' data _ _ HW'.out HB'.out (fun b h => h) (by rw [HL'.out]; omega)).mono ?_
        rintro e w2 ⟨rfl, hV2, hA2⟩
        have HV2 := Lib.hid hV2
        have T2 := Lib.hid (hA2.whole T'.out (by omega))
        have HA2 := Lib.hid (alone_bs HA'.out hA2 (fun b h => h))
        have HB2 := Lib.hid (alone_bs HB'.out hA2 (fun b h => h))
        have HX2 := Lib.hid (HX'.out.trans hA2)
        have x3 := T2.out.cell 3
        have hs2 : w.heap.size < w2.heap.size := by have := hA2.size; omega
        have hgl2 : g < w2.heap.size := by omega
        clear hV2 hA2 x2
        go_wp2
        go_region_law (first
          | (refine step_append_list rfl (.tmp 164) (.tmp 165) 27 rfl w2.heap.size 5 i0 (.int .u8 0) 1 1 Try.underlying27 hi hz0 hz1 hz2 rfl (by decide) (.slice (some ⟨w2.heap.size, 0, none⟩) 0 0) 0 [] rfl (own_nothing w2 5 1 (Nat.le_refl _)) _ A' n' c' _ rfl (Bs.alloc (w := w2) HA2.out _) oneCell_bytes (by unfold maxLen; omega) (by omega) (by simp [World.drew]) ?_
             intro A20 c20 w20 ho20 hg20
             have HO20 : Hid (w20.ownsRow w2.heap.size 5 1 (.slice A20 n' c20) n' (all'.map bv)) := Lib.hid (by simpa using ho20)
             have HB20 := Lib.hid (bs_row HB2.out hg20)
             have HW20 := Lib.hid (below_row hg20)
             have x3 := (T2.out.below' HW20.out).cell 3
             clear ho20 hg20)
          | (refine step_append_list rfl (.tmp 166) (.tmp 168) 27 rfl w2.heap.size 5 i0 (.int .u8 0) 1 1 Try.underlying27 hi hz0 hz1 hz2 rfl (by decide) (.slice A20 n' c20) n' _ rfl HO20.out _ B m dc _ rfl HB20.out oneCell_bytes (by unfold maxLen; omega) (by omega) (by have := HW20.out.size; omega) ?_
             intro A21 c21 w21 ho21 hg21
             have HF := Lib.hid (bs_fin ho21 hgl2)
             have HN := Lib.hid (own_capn ho21)
             have HW21 := Lib.hid (HW20.out.grown hg21 HW20.out.size (fun b e => (World.ownsRow.lt HO20.out b e).1))
             clear ho21 hg21))
        all_goals
          go_wp2
          go_roundw
          case rel => exact ⟨j + 1, A21, n' + m, c21, all' ++ data, by omega, by go_num, rfl, by omega, HN, HF, Lib.hid (HV2.out.below HW21.out), Lib.hid (HX2.out.trans (Alone.of_below HW21.out g))⟩
          case measure => simp [intOf]; omega
      · have dk : decide ((j : Int) < N) = false := by simpa using hlt
        go_wp2
        go_ret2
        exact ⟨A', n', c', all', rfl, HA'.out, HN'.out, HW'.out, HX.out.trans HX'.out, by omega⟩
end Go.Proofs.Ytphphejabgjnjaa
