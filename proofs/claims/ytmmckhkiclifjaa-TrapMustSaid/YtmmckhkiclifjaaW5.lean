/- TrapMust. -/
import Derived.Test.YtmmckhkiclifjaaW4
namespace Go.Proofs.Ytmmckhkiclifjaa
open Go.RowKit

theorem catch18 (b : Nat) (e : Int) (is : Bool) (w : World) (h0 : Whole w (b + 1) 4 #[.bool is]) (h1 : Whole w b 3 #[.int .i64 e]) :
    Calls Try.prog 10 #[.func (.func 18) #[] #[.pointer (some ⟨b + 1, 0, none⟩), .pointer (some ⟨b, 0, none⟩)]] w fun x w' =>
      x = .returned (.int .i64 (if is then 0 else 1 + bits .and .i64 e 63)) ∧ Below w.heap.size w w' := by
  have hb : ∀ w' w'', Rb (w.alloc (.cells #[.int .i64 0] 27)) w' → Alone w' w'' w.heap.size → Below w.heap.size w w'' := fun w' w'' h1 h2 =>
    h2.below (((Below.refl w.heap.size w).alloc (Nat.le_refl _) (.cells #[.int .i64 0] 27)).trans (Below.mono h1 (by simp))) (Nat.le_refl _) (by have := Below.size h1; simp at this; omega)
  cases is
  · refine (catch_throw _ (1 + bits .and .i64 e 63) w (fun w' => Rb (w.alloc (.cells #[.int .i64 0] 27)) w') (call_throw 18 _ _ _ _ (fun _ => by kernel_rfl) ((check18 b e false _ (h0.alloc _) (h1.alloc _)).mono ?_))).mono ?_
    · rintro x w1 ⟨rfl, hR⟩
      exact ⟨rfl, (Whole.new w 27 #[.int .i64 0] rfl).below' hR, hR⟩
    · rintro x w1 ⟨rfl, w', hR, hA⟩
      exact ⟨rfl, hb _ _ hR hA⟩
  · refine (catch_ret _ w (fun w' => Rb (w.alloc (.cells #[.int .i64 0] 27)) w') (call_ret 18 _ _ _ (fun _ => by kernel_rfl) ((check18 b e true _ (h0.alloc _) (h1.alloc _)).mono ?_))).mono ?_
    · rintro x w1 ⟨rfl, hR⟩
      exact ⟨rfl, (Whole.new w 27 #[.int .i64 0] rfl).below' hR, hR⟩
    · rintro x w1 ⟨rfl, w', hR, hA⟩
      exact ⟨rfl, hb _ _ hR hA⟩
theorem must_any (v e : Int) (is : Bool) (W : World) : Calls Try.prog 4 #[.int .u64 v, .int .i64 e, .bool is] W fun x w' => x = .returned (.bool true) ∧ Below W.heap.size W w' := by
  have try16 : ∀ (b : Nat) (w : World), Whole w b 35 #[.int .u64 v] → Whole w (b + 1) 3 #[.int .i64 e] →
      Calls Try.prog 15 #[.func (.func 16) #[] #[.pointer (some ⟨b, 0, none⟩), .pointer (some ⟨b + 1, 0, none⟩)]] w fun x w' => x = .returned (.tuple #[.int .u64 (if bits .and .i64 e 63 = 0 then v else 0), .int .i64 (bits .and .i64 e 63)]) ∧ Below w.heap.size w w' := fun b w h0 h1 => by
    by_cases he : bits .and .i64 e 63 = 0
    · refine (tryU_ret 16 _ v w Rb (fun _ => by kernel_rfl) (keep_rb _) fun w' hw' => must16_ok b v e w' (h0.below' hw') (h1.below' hw') he).mono ?_
      rintro x w' ⟨rfl, w1, w2, b1, b2, b3⟩
      exact ⟨by rw [if_pos he, he], (b1.trans (Below.mono b2 b1.size)).trans b3⟩
    · refine (tryU_throw 16 _ (bits .and .i64 e 63) w Rb (fun _ => by kernel_rfl) (keep_rb _) fun w' hw' => must16_err b v e w' (h0.below' hw') (h1.below' hw') (by simpa using he)).mono ?_
      rintro x w' ⟨rfl, w1, w2, b1, b2, b3⟩
      exact ⟨by rw [if_neg he], (b1.trans (Below.mono b2 b1.size)).trans b3⟩
  have hc := fun b w => catch18 b e is w
  have hcode := fun w => code_any e w
  obtain ⟨x, hx⟩ : ∃ x, (if bits .and .i64 e 63 = 0 then v else 0) = x := ⟨_, rfl⟩
  obtain ⟨y, hy⟩ : ∃ y, (if is then 0 else 1 + bits .and .i64 e 63) = y := ⟨_, rfl⟩
  rw [hx] at try16
  rw [hy] at hc
  have HX := Lib.hid hx
  have HY := Lib.hid hy
  clear hx hy
  have hmf : ∀ (fn : Fn) (first cap : Array Value) (w : World), (Instr.makeFunc fn first cap).run Try.prog w = .ok (.func fn first cap) w := fun _ _ _ _ => rfl
  have T16 := Lib.hid try16
  have C18 := Lib.hid hc
  have CD := Lib.hid hcode
  clear try16 hc hcode
  go_enter Try.func4, Try.ntmps4
  go_wp2_with fail
  obtain ⟨W1, hW1⟩ : ∃ W1, ((W.alloc (.cells #[.int .u64 v] 35)).alloc (.cells #[.int .i64 e] 3)).alloc (.cells #[.bool is] 4) = W1 := ⟨_, rfl⟩
  have b0 : Whole W1 W.heap.size 35 #[.int .u64 v] := hW1 ▸ ((Whole.new W 35 _ rfl).alloc _).alloc _
  have b1 : Whole W1 (W.heap.size + 1) 3 #[.int .i64 e] := hW1 ▸ (Whole.new _ 3 _ (by simp)).alloc _
  have b2 : Whole W1 (W.heap.size + 1 + 1) 4 #[.bool is] := hW1 ▸ Whole.new _ 4 _ (by simp)
  have bB : Below W.heap.size W W1 := hW1 ▸ (((Below.refl _ _).alloc (Nat.le_refl _) _).alloc (by simp) _).alloc (by simp; omega) _
  have hs : W1.heap.size = W.heap.size + 3 := by rw [← hW1]; simp
  rw [hW1]
  clear hW1
  have B0 := Lib.hid b0
  have B1 := Lib.hid b1
  have B2 := Lib.hid b2
  have BB := Lib.hid bB
  have HS := Lib.hid hs
  clear b0 b1 b2 bB hs
  refine (awake_any W1).mono ?_
  rintro x w2 ⟨rfl, hb⟩
  have c0 := B0.out.below' hb
  have c1 := B1.out.below' hb
  have c2 := B2.out.below' hb
  have cB := BB.out.trans (hb.mono (by rw [HS.out]; omega))
  have hs2 := hb.size
  rw [HS.out] at hs2
  clear B0 B1 B2 BB HS hb
  have B0 := Lib.hid c0
  have B1 := Lib.hid c1
  have B2 := Lib.hid c2
  have BB := Lib.hid cB
  have HS := Lib.hid hs2
  clear c0 c1 c2 cB hs2
  go_wp2_with fail
  refine (T16.out W.heap.size w2 B0.out B1.out).mono ?_
  rintro x w3 ⟨rfl, hb⟩
  have c0 := B0.out.below' hb
  have c1 := B1.out.below' hb
  have c2 := B2.out.below' hb
  have cB := BB.out.trans (hb.mono (by have := HS.out; omega))
  have hs2 := Nat.le_trans HS.out hb.size
  clear B0 B1 B2 BB HS hb
  have B0 := Lib.hid c0
  have B1 := Lib.hid c1
  have B2 := Lib.hid c2
  have BB := Lib.hid cB
  have HS := Lib.hid hs2
  clear c0 c1 c2 cB hs2
  go_wp2_with fail
  refine (C18.out (W.heap.size + 1) w3 B2.out B1.out).mono ?_
  rintro x w4 ⟨rfl, hb⟩
  have c0 := B0.out.below' hb
  have c1 := B1.out.below' hb
  have c2 := B2.out.below' hb
  have cB := Lib.hid (BB.out.trans (hb.mono (by have := HS.out; omega)))
  have g0 := c0.cell 0
  have g1 := c1.cell 0
  have g2 := c2.cell 0
  have k0 := c0.free 0
  have k1 := c1.free 0
  have k2 := c2.free 0
  clear B0 B1 B2 BB HS hb c0 c1 c2
  have hx := HX.out
  have hy := HY.out
  clear HX HY
  by_cases he : bits .and .i64 e 63 = 0
  · have hne : (bits .and .i64 e 63 == 0) = true := by simpa using he
    rw [if_pos he] at hx
    subst hx
    rw [he] at CD hy
    cases is
    all_goals
      simp only [if_true, if_false, Bool.false_eq_true] at hy
      subst hy
      go_wp2_with (go_at_call 20; refine (CD.out _).mono ?_; rintro x w5 ⟨rfl, rfl⟩)
      go_ret
      exact ⟨rfl, cB.out⟩
  · have hne : (bits .and .i64 e 63 == 0) = false := by simpa using he
    rw [if_neg he] at hx
    subst hx
    cases is
    all_goals
      simp only [if_true, if_false, Bool.false_eq_true] at hy
      subst hy
      go_wp2_with (go_at_call 20; refine (CD.out _).mono ?_; rintro x w5 ⟨rfl, rfl⟩)
      go_ret
      exact ⟨rfl, cB.out⟩
end Go.Proofs.Ytmmckhkiclifjaa
