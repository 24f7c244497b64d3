/- TrapAlways. -/
import Derived.Test.YtmmckhkiclifjaaW14
namespace Go.Proofs.Ytmmckhkiclifjaa
open Go.RowKit

set_option maxHeartbeats 2000000 in
theorem always_any (A : Option Addr) (n c : Nat) (l : List (Int × Int)) (W : World) (hL : Ps W (fun b => b < W.heap.size) A n l) : Calls Try.prog 6 #[.slice A n c] W fun e w' => e = .returned (.bool true) ∧ Below W.heap.size W w' := by
  have hmf : ∀ (fn : Fn) (first cap : Array Value) (w : World), (Instr.makeFunc fn first cap).run Try.prog w = .ok (.func fn first cap) w := fun _ _ _ _ => rfl
  have hlen := hL.len
  have HL := Lib.hid hL
  clear hL
  go_enter Try.func6, Try.ntmps6
  go_wp2_with fail
  refine (awake_any W).mono ?_
  rintro x w1 ⟨rfl, hb1⟩
  have HL1 := Lib.hid ((HL.out.below hb1).mono fun b (hb : b < W.heap.size) => Nat.lt_of_lt_of_le hb hb1.size)
  have HB1 := Lib.hid hb1
  clear hb1 HL
  by_cases hn : n ≤ 40
  · go_wp2_with fail
    refine (plain_any A n c l w1 HL1.out (by omega)).mono ?_
    rintro x w2 ⟨A2, c2, rfl, hnc2, hc2, hP, hb2⟩
    have HY := Lib.hid (steps_laid A2 n c2 (plainL l) W w1 w2 HB1.out hP hb2)
    clear hP hb2 HL1 HB1
    go_wp2_with fail
    obtain ⟨w3, e3⟩ : ∃ w3, w2.alloc (.cells #[.slice A2 n c2] 22) = w3 := ⟨_, rfl⟩
    rw [e3] at HY ⊢
    clear e3
    generalize w2.heap.size = b at HY ⊢
    refine (ref_any A2 n c2 (plainL l) w3 _ HY.out.steps.choose_spec.2 (by omega)).mono ?_
    rintro x w4 ⟨rfl, hb4⟩
    rw [refL_top _ _ _ (Nat.le_refl _)]
    have HY4 := Lib.hid (HY.out.next hb4)
    clear HY hb4
    go_wp2_with fail
    obtain ⟨w5, e5⟩ : ∃ w5, (w4.alloc (.cells #[.int .i64 0] 3)).alloc (.cells #[.int .i64 (-1)] 3) = w5 := ⟨_, rfl⟩
    have hbd := runL_bounds (plainL l).length (plainL l) 0 (Nat.le_refl _)
    have hcd := fun m' c' => runL_code (plainL l).length (plainL l) 0 m' c' (Nat.le_refl _) (plainL_code l)
    have hpl : (plainL l).length = n := by simp [plainL, hlen]
    rw [hpl] at hbd
    have hs5 : w5.heap.size = w4.heap.size + 2 := by rw [← e5]; simp
    have k1 : Whole w5 w4.heap.size 3 #[.int .i64 0] := e5 ▸ (Whole.new w4 3 _ rfl).alloc _
    have k2 : Whole w5 (w4.heap.size + 1) 3 #[.int .i64 (-1)] := e5 ▸ Whole.new _ 3 _ (by simp)
    have hb5 : Below w4.heap.size w4 w5 := e5 ▸ ((Below.refl _ _).alloc (Nat.le_refl _) _).alloc (by simp) _
    have hbl := HY4.out.box.lt
    obtain ⟨m, hm, hps⟩ := HY4.out.steps
    have HY5 := HY4.out.next hb5
    have p1 : Ps w5 (fun k => k ≠ w4.heap.size) A2 n (plainL l) := (hps.below hb5).mono fun k (hk : k < m) => by omega
    have hgW : W.heap.size ≤ w4.heap.size := HY4.out.below.size
    have HCA := Lib.hid (catch24 b w4.heap.size (w4.heap.size + 1) A2 n c2 (plainL l) w5 HY5.box p1 k1 k2 (by omega) hnc2 (by omega) hc2 (plainL_code l))
    have HB5 := Lib.hid HY5.below
    rw [e5]
    generalize runL (plainL l) 0 = P at hbd hcd HCA ⊢
    clear e5 k1 k2 hb5 hps p1 HY5 HY4
    obtain ⟨g, eg⟩ : ∃ g, w4.heap.size = g := ⟨_, rfl⟩
    rw [eg] at hs5 hgW HCA hbl ⊢
    clear eg
    obtain ⟨x, o⟩ := P
    simp only at hbd
    cases o with
    | none =>
      refine HCA.out.mono ?_
      rintro x6 w6 ⟨rfl, hC⟩
      have hw6 : Below W.heap.size W w6 := HB5.out.trans ⟨hC.1.1, hC.1.2.1, hC.1.2.2.1, by have := hC.1.2.2.2.1; omega, fun k hk => hC.1.2.2.2.2 k (by omega) (by omega) (by omega)⟩
      have HB6 := Lib.hid hw6
      have c7 := hC.2.1.cell 0
      have f7 := hC.2.1.free 0
      have c8 := hC.2.2.cell 0
      have f8 := hC.2.2.free 0
      clear hC hw6 HB5 HCA
      try dsimp only
      try simp only [codeOf, Option.getD]
      go_wp2
      go_ret
      exact ⟨rfl, HB6.out⟩
    | some c0 =>
      have hc00 : (c0 == 0) = false := by have := (hcd x c0 rfl).1; simp; omega
      refine HCA.out.mono ?_
      rintro x6 w6 ⟨rfl, hC⟩
      have hw6 : Below W.heap.size W w6 := HB5.out.trans ⟨hC.1.1, hC.1.2.1, hC.1.2.2.1, by have := hC.1.2.2.2.1; omega, fun k hk => hC.1.2.2.2.2 k (by omega) (by omega) (by omega)⟩
      have HB6 := Lib.hid hw6
      have c7 := hC.2.1.cell 0
      have f7 := hC.2.1.free 0
      have c8 := hC.2.2.cell 0
      have f8 := hC.2.2.free 0
      clear hC hw6 HB5 HCA
      try dsimp only
      try simp only [codeOf, Option.getD]
      go_wp2
      go_ret
      exact ⟨rfl, HB6.out⟩
  · go_wp2
    go_ret
    exact ⟨rfl, HB1.out⟩
end Go.Proofs.Ytmmckhkiclifjaa
