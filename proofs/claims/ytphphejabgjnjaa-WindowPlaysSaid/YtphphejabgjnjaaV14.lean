/- WindowPlays. -/
import Derived.Test.YtphphejabgjnjaaV13
namespace Go.Proofs.Ytphphejabgjnjaa
open Go.RowKit

theorem do_any (g n c m dc mn : Nat) (A B : Option Addr) (all data : List UInt8) (K D N : Int) (w : World) (hW : Wnd w g all) (hA : Bs w (fun b => b ≠ g) A n all) (hnc : n ≤ c) (hB : Bs w (fun b => b ≠ g) B m data) (hn : n ≤ 10000000) (hm : m ≤ 4000) (hmn : min n 32768 = mn) (h4 : K = 4 → N ≤ 20) (h1 : K = 1 → N ≤ 40000 ∨ 1048576 < N) : Calls Try.prog 8 #[.pointer (some ⟨g, 0, none⟩), .slice A n c, .agg #[.int .i64 K, .int .i64 D, .int .i64 N, .slice B m dc]] w (DoP g n w) := by
  by_cases k0 : K = 0
  · exact do0 g n c m dc mn A B all data K D N w hW hA hnc hB hn hm hmn (by rw [beq_iff_eq]; exact k0)
  have f0 : (K == 0) = false := by rw [beq_eq_false_iff_ne]; exact k0
  by_cases k1 : K = 1
  · exact do1 g n c m dc mn A B all data K D N w hW hA hnc hB hn hm hmn (h1 k1) f0 (by rw [beq_iff_eq]; exact k1)
  have f1 : (K == 1) = false := by rw [beq_eq_false_iff_ne]; exact k1
  by_cases k2 : K = 2
  · exact do2 g n c m dc mn A B all data K D N w hW hA hnc hB hn hm hmn f0 f1 (by rw [beq_iff_eq]; exact k2)
  have f2 : (K == 2) = false := by rw [beq_eq_false_iff_ne]; exact k2
  by_cases k3 : K = 3
  · exact do3 g n c m dc mn A B all data K D N w hW hA hnc hB hn hm hmn f0 f1 f2 (by rw [beq_iff_eq]; exact k3)
  have f3 : (K == 3) = false := by rw [beq_eq_false_iff_ne]; exact k3
  by_cases k4 : K = 4
  · exact do4 g n c m dc mn A B all data K D N w hW hA hnc hB hn hm hmn (h4 k4) f0 f1 f2 f3 (by rw [beq_iff_eq]; exact k4)
  have f4 : (K == 4) = false := by rw [beq_eq_false_iff_ne]; exact k4
  exact do5 g n c m dc mn A B all data K D N w hW hA hnc hB hn hm hmn f0 f1 f2 f3 f4
theorem getD_mem' (l : List Wop) (j : Nat) (h : j < l.length) : l.getD j (0, 0, 0, []) ∈ l := by
  rw [List.getD_eq_getElem?_getD, List.getElem?_eq_getElem h]
  simp
set_option maxHeartbeats 4000000 in
set_option maxRecDepth 100000 in
theorem plays_law (A : Option Addr) (n c : Nat) (l : List Wop) (W : World) (hL : Ops W A n l) :
    Calls Try.prog 3 #[.slice A n c] W fun e w' => e = .returned (.bool true) ∧ Below W.heap.size W w' := by
  have HLen := Lib.hid hL.1
  have HL := Lib.hid hL
  clear hL
  go_enter Try.func3, Try.ntmps3
  go_wp2_with fail
  refine (awake_any W).mono ?_
  rintro e w1 ⟨rfl, hb1⟩
  have HB1 := Lib.hid hb1
  clear hb1
  go_wp2_with fail
  refine (light_any A n c l w1 (HL.out.below HB1.out)).mono ?_
  rintro e w2 ⟨r, z, rfl, rfl, hr⟩
  rcases r with _ | _
  · go_wp2
    go_ret
    exact ⟨rfl, HB1.out.drewN' _⟩
  obtain ⟨hn40, hfine⟩ := hr rfl
  have HF := Lib.hid hfine
  have HB2 := Lib.hid (HB1.out.drewN' z)
  clear hr hfine
  generalize w1.drewN z = w2 at HB2 ⊢
  clear HB1
  go_wp2_with fail
  refine (new_any w2).mono ?_
  rintro e w3 ⟨g, rfl, hV, hg, hb3⟩
  have HV := Lib.hid hV
  have HB3 := Lib.hid (HB2.out.trans (hb3.mono HB2.out.size))
  have hgW : W.heap.size ≤ g := by have := HB2.out.size; omega
  have hgl := hV.lt
  clear hV hb3 HB2
  go_wp2
  go_loopw [4, 5] (fun a i wr => ∃ (j : Nat) (A' : Option Addr) (n' c' : Nat) (all' : List UInt8), j ≤ n ∧ i = .int .i64 (j : Nat) ∧ a = .slice A' n' c' ∧ n' ≤ 84000 * j ∧ Hid (n' ≤ c') ∧ Hid (Bs wr (fun b => b ≠ g) A' n' all') ∧ Hid (Wnd wr g all') ∧ Hid (Alone w3 wr g)) (fun _ i _ => n - (intOf i).toNat)
  case atStart => exact ⟨0, none, 0, 0, [], Nat.zero_le _, rfl, rfl, by omega, Lib.hid (Nat.le_refl _), Lib.hid (Bs.empty _ _ _), HV, Lib.hid (Alone.refl _ _)⟩
  case round =>
    obtain ⟨j, A', n', c', all', hj, rfl, rfl, hn', HN', HA', HV', HX'⟩ := hrel
    have HBW := Lib.hid (HX'.out.below HB3.out hgW HB3.out.size)
    by_cases hlt : j < n
    · obtain ⟨tb, to, B, d, rfl, hbl, h0, h1, h2, h3, hBs⟩ := (HL.out.below HBW.out).2 j hlt
      obtain ⟨tb', to', B', d', e', hbl', -, -, -, h3', hBs'⟩ := HL.out.2 j hlt
      have hq := HF.out _ (getD_mem' l j (by rw [HLen.out]; exact hlt))
      generalize l.getD j (0, 0, 0, []) = q at h0 h1 h2 h3 hBs hq h3' hBs'
      obtain ⟨K, D, N, xs⟩ := q
      unfold Fine at hq
      simp only at h0 h1 h2 h3 hBs hq h3' hBs'
      have HD : Hid (Bs wr (fun b => b ≠ g) B xs.length xs) := Lib.hid (by
        injection e' with e'
        injection e' with e1 e2
        subst e1 e2
        have e := ((HBW.out.cell (by assumption)).trans h3').symm.trans h3
        injection e with e
        injection e with e1 e2 e3
        rw [← e1]
        exact (hBs'.below HBW.out).mono (fun b hb => by omega))
      clear e' hbl' h3' hBs' hBs
      obtain ⟨hq1, hq4, hq1'⟩ := hq
      obtain ⟨m, hm⟩ : ∃ m, xs.length = m := ⟨_, rfl⟩
      rw [hm] at h3 HD hq1
      obtain ⟨mn, hmn⟩ : ∃ mn, min n' 32768 = mn := ⟨_, rfl⟩
      have HDO := Lib.hid (do_any g n' c' m d mn A' B all' xs K D N wr HV'.out HA'.out HN'.out HD.out (by omega) hq1 hmn hq4 hq1')
      clear hm hmn hq4 hq1'
      go_wp2_with fail
      refine HDO.out.mono ?_
      rintro e w4 ⟨A2, n2, c2, all2, rfl, hB2, hc2, hV2, hX2, hn2⟩
      have HB2 := Lib.hid hB2
      have HC2 := Lib.hid hc2
      have HV2 := Lib.hid hV2
      have HX2 := Lib.hid (HX'.out.trans hX2)
      have hl2 := hB2.len
      have HLN := Lib.hid (len_any g all2 w4 hV2 (by rw [hl2]; omega))
      have HRL := Lib.hid (rlen_any A2 n2 c2 w4 (by omega))
      have HAL := Lib.hid (all_any g all2 w4 hV2)
      have hwl : wlen all2 = min n2 32768 := by unfold wlen; rw [hl2]
      rw [hwl] at HLN
      rw [hl2] at HAL
      obtain ⟨k2, hk2⟩ : ∃ k2, min n2 32768 = k2 := ⟨_, rfl⟩
      rw [hk2] at HLN HRL
      clear hB2 hc2 hV2 hX2 hl2 hwl hk2 h0 h1 h2 h3 HDO
      go_wp2_with fail
      refine HLN.out.mono ?_
      rintro e wx ⟨rfl, rfl⟩
      go_wp2_with fail
      refine HRL.out.mono ?_
      rintro e wx ⟨rfl, rfl⟩
      go_wp2_with fail
      refine HAL.out.mono ?_
      rintro e wx ⟨rfl, rfl⟩
      go_wp2
      exact ⟨⟨j + 1, A2, n2, c2, all2, by omega, by go_num, rfl, by omega, HC2, HB2, HV2, HX2⟩, by simp [intOf]; omega⟩
    · obtain rfl : j = n := by omega
      go_wp2
      go_ret
      exact ⟨rfl, HBW.out⟩
end Go.Proofs.Ytphphejabgjnjaa
