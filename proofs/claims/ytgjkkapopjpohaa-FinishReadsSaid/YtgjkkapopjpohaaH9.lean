/- FinishReads, for all bytes. -/
import Derived.Test.YtgjkkapopjpohaaH8
namespace Go.Proofs.Ytgjkkapopjpohaa
open Go.RowKit

theorem law_long (A : Option Addr) (n c : Nat) (W : World) (hn : 1000 < n) : Calls Try.prog 4 #[.slice A n c] W fun e w' => e = .returned (.bool true) ∧ Below W.heap.size W w' := by
  have d1 : decide (1000 < n) = true := by simpa using hn
  have d1' : decide ((1000 : Int) < (n : Int)) = true := by simp; omega
  go_enter Try.func4, Try.ntmps4
  go_wp2_with fail
  refine (awake_any W).mono ?_
  rintro e w1 ⟨rfl, hb1⟩
  have HB1 : Hid (Below W.heap.size W w1) := Lib.hid hb1
  clear hb1
  go_wp2
  go_ret
  exact ⟨rfl, HB1.out⟩
/-- A code of the read, in both of its shapes. -/
theorem rd_ret {P : World → Prop} {f : FuncId} {args : Array Value} {K : Int} {v : Value} (h : ∀ w, P w → Calls Try.prog f args w (RdP w.heap.size w K v)) (hK : K = 0) : ∀ w, P w → Calls Try.prog f args w fun e w' => e = .returned v ∧ Below w.heap.size w w' := by
  intro w hw
  refine (h w hw).mono ?_
  rintro e w' ⟨rfl, hb⟩
  exact ⟨by rw [if_pos hK], hb⟩
theorem rd_thr {P : World → Prop} {f : FuncId} {args : Array Value} {K : Int} {v : Value} (h : ∀ w, P w → Calls Try.prog f args w (RdP w.heap.size w K v)) (hK : ¬ K = 0) : ∀ w, P w → Calls Try.prog f args w fun e w' => e = .panicked [{ v := fault K, recovered := false }] ∧ Below w.heap.size w w' := by
  intro w hw
  refine (h w hw).mono ?_
  rintro e w' ⟨rfl, hb⟩
  exact ⟨by rw [if_neg hK], hb⟩
set_option maxHeartbeats 1000000 in
theorem reads_law (A : Option Addr) (n c : Nat) (bs : List UInt8) (W : World) (hnc : n ≤ c) (hcc : c ≤ 9223372036854775807) (hB : Bs W (fun b => b < W.heap.size) A n bs) : Calls Try.prog 4 #[.slice A n c] W fun e w' => e = .returned (.bool true) ∧ Below W.heap.size W w' := by
  by_cases hn : n ≤ 1000
  case neg => exact law_long A n c W (by omega)
  have hl := hB.len
  have hS : ∀ w, Below W.heap.size W w → ∀ b, b < W.heap.size → b < w.heap.size := fun w hw b hb => Nat.lt_of_lt_of_le hb hw.size
  by_cases h22 : n < 22
  · refine law_none A n c bs 4 W hn rfl hB (Lib.hid fun w hw => parse_none A n c 4 w rfl fun w' _ => read_short A n c w' h22) (Lib.hid fun w hw => rparse_short A n c w h22)
  obtain ⟨E, hE⟩ : ∃ E, bs.drop (n - 22) = E := ⟨_, rfl⟩
  have hEl : E.length = 22 := by rw [← hE, List.length_drop]; omega
  obtain ⟨u, n2⟩ : ∃ u, num ((E.drop 8).take 2) = u := ⟨_, rfl⟩
  obtain ⟨x, n4⟩ : ∃ x, num ((E.drop 12).take 4) = x := ⟨_, rfl⟩
  obtain ⟨y, n5⟩ : ∃ y, num ((E.drop 16).take 4) = y := ⟨_, rfl⟩
  rcases Bool.eq_false_or_eq_true (u == 65535) with f0 | f0
  · have hu : u = 65535 := by simpa using f0
    have hokf : okT (u : Nat) (x : Nat) (y : Nat) = false := by
      rw [Bool.eq_false_iff]
      intro h
      have := okT_nat.1 h
      omega
    by_cases h98 : n < 98
    · obtain ⟨K, hK⟩ : ∃ K, bad (rl E u [((x == 4294967295 && y == 4294967295), 39), ((4 : Int) == 0, 4), (okT 0 0 0, 13)]) = K := ⟨_, rfl⟩
      have hK0 : ¬ K = 0 := by
        rw [← hK, rl_zero _ _ _ (by simp)]
        simp
      have RB : ∀ w, Below W.heap.size W w → Calls Try.prog 19 #[.slice A n c] w (RdP w.heap.size w K (tl 0 0 0 true)) := fun w hw =>
        read_broad A n c bs _ w E u x y K (hB.below hw) hn (by omega) hnc hE n2 n4 n5 0 0 0 4 f0 hK (fun w' hb => (w_short A (n - 22) c w' (by omega)).mono fun e w'' h => ⟨by rw [h.1]; rfl, h.2⟩)
      refine law_none A n c bs K W hn (by simpa using hK0) hB (Lib.hid fun w hw => parse_none A n c K w (by simpa using hK0) fun w' hb => rd_thr RB hK0 w' (hw.trans (hb.mono hw.size))) (Lib.hid fun w hw => ?_)
      exact rparse_mid A n c bs _ w (hS w hw) E u x y (hB.below hw) hn (by omega) hnc hE n2 n4 n5 f0 h98 false (by rw [hokf, Bool.false_and])
    · obtain ⟨F, hF⟩ : ∃ F, bs.drop (n - 98) = F := ⟨_, rfl⟩
      have hFl : F.length = 98 := by rw [← hF, List.length_drop]; omega
      have hFE : F.drop 76 = E := by rw [← hF, List.drop_drop, ← hE]; congr 1; omega
      obtain ⟨V, hV⟩ : ∃ V, F.take 76 = V := ⟨_, rfl⟩
      have hV2 : (bs.take (n - 22)).drop (n - 22 - 76) = V := by
        rw [← hV, ← hF, List.drop_take, show n - 22 - 76 = n - 98 by omega]
        congr 1
        omega
      have sub : ∀ p k, p + k ≤ 76 → (V.drop p).take k = (F.drop p).take k := by
        intro p k h
        rw [← hV, List.drop_take, List.take_take]
        congr 1
        omega
      obtain ⟨N, m1⟩ : ∃ N, num ((V.drop 24).take 8) = N := ⟨_, rfl⟩
      obtain ⟨s, m2⟩ : ∃ s, num ((V.drop 40).take 8) = s := ⟨_, rfl⟩
      obtain ⟨a, m3⟩ : ∃ a, num ((V.drop 48).take 8) = a := ⟨_, rfl⟩
      obtain ⟨Kw, hKw⟩ : ∃ Kw, bad (wl V N ((a + s) % 18446744073709551616)) = Kw := ⟨_, rfl⟩
      obtain ⟨K, hK⟩ : ∃ K, bad (rl E u [((x == 4294967295 && y == 4294967295), 39), (Kw == 0, Kw), (okT (IntKind.i64.wrap (N : Int)) (IntKind.i64.wrap (s : Int)) (IntKind.i64.wrap (a : Int)), 13)]) = K := ⟨_, rfl⟩
      have hiff := wide_iff F E V u x y N s a hFl hFE hV n2 n4 n5 hu m1 m2 m3 Kw hKw
      rw [hK] at hiff
      have RB : ∀ w, Below W.heap.size W w → Calls Try.prog 19 #[.slice A n c] w (RdP w.heap.size w K (tl (IntKind.i64.wrap (N : Int)) (IntKind.i64.wrap (s : Int)) (IntKind.i64.wrap (a : Int)) true)) := fun w hw =>
        read_broad A n c bs _ w E u x y K (hB.below hw) hn (by omega) hnc hE n2 n4 n5 _ _ _ Kw f0 hK (fun w' hb => wread_any A (n - 22) c (bs.take (n - 22)) _ w' V N s a _ _ _ _ Kw (((hB.below hw).below hb).take (by omega)) (by omega) (by omega) (by omega) hcc hV2 m1 m2 m3 rfl rfl rfl rfl hKw)
      obtain ⟨q, hq⟩ : ∃ q, (okT (wideI N) (wideI s) (wideI a) && (F == enc N s a true)) = q := ⟨_, rfl⟩
      have RR : ∀ w, Below W.heap.size W w → Calls Try.prog 13 #[.slice A n c] w (RQ w q (tl (wideI N) (wideI s) (wideI a) true) 98) := fun w hw =>
        rparse_wide A n c bs _ w (hS w hw) E u x y (hB.below hw) hn (by omega) hnc hE n2 n4 n5 f0 F N s a _ _ _ (by omega) hF (by rw [← sub 24 8 (by omega)]; exact m1) (by rw [← sub 40 8 (by omega)]; exact m2) (by rw [← sub 48 8 (by omega)]; exact m3) rfl rfl rfl q hq
      rw [hq] at hiff
      cases q
      · have hK0 : ¬ K = 0 := fun h => Bool.false_ne_true (hiff.1 h)
        exact law_none A n c bs K W hn (by simpa using hK0) hB (Lib.hid fun w hw => parse_none A n c K w (by simpa using hK0) fun w' hb => rd_thr RB hK0 w' (hw.trans (hb.mono hw.size))) (Lib.hid fun w hw => RR w hw)
      · simp only [Bool.and_eq_true] at hq
        have hb := okT_wideI.1 hq.1
        have e1 : wideI N = (N : Int) := by unfold wideI; rw [if_pos (by omega)]
        have e2 : wideI s = (s : Int) := by unfold wideI; rw [if_pos (by omega)]
        have e3 : wideI a = (a : Int) := by unfold wideI; rw [if_pos (by omega)]
        rw [e1, e2, e3] at RR
        rw [IntWalk.i64_in (N : Int) (by omega), IntWalk.i64_in (s : Int) (by omega), IntWalk.i64_in (a : Int) (by omega)] at RB
        exact law_some A n c bs N s a true 98 (n - 98) W hn (by omega) (by omega) hB (Lib.hid fun w hw => parse_wide A n c N s a w hn (by omega) fun w' hb => rd_ret RB (hiff.2 rfl) w' (hw.trans (hb.mono hw.size))) (Lib.hid fun w hw => RR w hw)
  · obtain ⟨K, hK⟩ : ∃ K, bad (rl E u [(okT (u : Nat) (x : Nat) (y : Nat), 13)]) = K := ⟨_, rfl⟩
    have hiff := slim_iff E u x y hEl n2 n4 n5
    rw [hK] at hiff
    have RB : ∀ w, Below W.heap.size W w → Calls Try.prog 19 #[.slice A n c] w (RdP w.heap.size w K (tl u x y false)) := fun w hw =>
      read_narrow A n c bs _ w E u x y K (hB.below hw) hn (by omega) hnc hE n2 n4 n5 f0 hK
    obtain ⟨q, hq⟩ : ∃ q, (okT (u : Nat) (x : Nat) (y : Nat) && (E == enc u x y false)) = q := ⟨_, rfl⟩
    have RR : ∀ w, Below W.heap.size W w → Calls Try.prog 13 #[.slice A n c] w (RQ w q (tl u x y false) 22) := fun w hw =>
      rparse_slim A n c bs _ w (hS w hw) E u x y (hB.below hw) hn (by omega) hnc hE n2 n4 n5 f0 q hq
    rw [hq] at hiff
    cases q
    · have hK0 : ¬ K = 0 := fun h => Bool.false_ne_true (hiff.1 h)
      exact law_none A n c bs K W hn (by simpa using hK0) hB (Lib.hid fun w hw => parse_none A n c K w (by simpa using hK0) fun w' hb => rd_thr RB hK0 w' (hw.trans (hb.mono hw.size))) (Lib.hid fun w hw => RR w hw)
    · exact law_some A n c bs u x y false 22 (n - 22) W hn (by omega) (by omega) hB (Lib.hid fun w hw => parse_slim A n c u x y w hn (by omega) fun w' hb => rd_ret RB (hiff.2 rfl) w' (hw.trans (hb.mono hw.size))) (Lib.hid fun w hw => RR w hw)
end Go.Proofs.Ytgjkkapopjpohaa
