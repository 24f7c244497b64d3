/- The writer of bits: Take, Align, Finish; the page's example. -/
import Derived.Test.YthpbiakjkmhfeaaW1
namespace Go.Proofs.Ythpbiakjkmhfeaa
open Go.RowKit

def Took (w : World) (base g : Nat) (A : Option Addr) (c : Nat) (D : List UInt8) (L N : Nat) (e : Ending) (w' : World) : Prop :=
  e = .returned (.slice A D.length c) ∧ Wr w' base g none 0 [] L N ∧ w'.ownsRow base 5 1 (.slice A D.length c) D.length (D.map bv) ∧ Chg w w' (fun b => b = g)
theorem take_any (base g : Nat) (A : Option Addr) (c : Nat) (D : List UInt8) (L N : Nat) (w : World) (hW : Wr w base g A c D L N) :
    Calls Try.prog 14 #[.pointer (some ⟨g, 0, none⟩)] w (Took w base g A c D L N) := by
  obtain ⟨hL, hg, hO⟩ := hW
  have c0 := hg.cell 0
  have f0 := hg.free 0
  have HG := Lib.hid hg
  have HO := Lib.hid hO
  have HL := Lib.hid hL
  clear hg hO hL
  go_enter Try.func14, Try.ntmps14
  go_wp2
  go_ret
  refine ⟨rfl, ⟨HL.out, HG.out.put 0 _ rfl, World.ownsRow_nil _ _ _ _⟩, ownsRow_setCell_other (a := ⟨g, 0, none⟩) HO.out (own_ne HG.out HO.out).symm _, (Chg.refl w _).put g 0 _ rfl⟩
theorem and7 (N : Nat) (h : N ≤ 1099511627776) : bits .and .i64 (IntKind.i64.wrap (-(N : Int))) 7 = (((8 - N % 8) % 8 : Nat) : Int) := by
  rw [IntWalk.i64_in _ (by omega)]
  show IntKind.i64.wrap ((BitVec.ofInt 64 (-(N : Int)) &&& BitVec.ofInt 64 7).toNat : Int) = _
  have h1 : (BitVec.ofInt 64 (-(N : Int)) &&& BitVec.ofInt 64 7).toNat = (8 - N % 8) % 8 := by
    rw [BitVec.toNat_and, show (BitVec.ofInt 64 7).toNat = 2 ^ 3 - 1 from rfl, Nat.and_two_pow_sub_one_eq_mod, BitVec.toNat_ofInt]
    omega
  rw [h1, IntWalk.i64_in _ (by omega)]
theorem and7' (N : Nat) (h : N ≤ 1099511627776) : bits .and .i64 (-(N : Int)) 7 = (((8 - N % 8) % 8 : Nat) : Int) := by
  have := and7 N h
  rwa [IntWalk.i64_in _ (by omega)] at this
theorem align_any (base g : Nat) (A : Option Addr) (c : Nat) (D : List UInt8) (L N : Nat) (w : World) (hW : Wr w base g A c D L N) (hN : N ≤ 1099511627776) (hD : D.length ≤ 1099511627776) (hb : base ≤ g) :
    Calls Try.prog 11 #[.pointer (some ⟨g, 0, none⟩)] w (Put w base g A (D ++ leB L ((N % 8 + 7) / 8)) 0 ((N + 7) / 8 * 8) (.int .i64 ((8 - N % 8) % 8 : Nat))) := by
  have c2 := hW.2.1.cell 2
  have HW := Lib.hid hW
  have HL := Lib.hid hW.1
  have h7 := and7' N hN
  have HH := Lib.hid h7
  obtain ⟨r, hr⟩ : ∃ r, (8 - N % 8) % 8 = r := ⟨_, rfl⟩
  rw [hr] at h7
  have HR := Lib.hid hr
  clear hW hr HH
  go_enter Try.func11, Try.ntmps11
  go_wp2_with fail
  refine (put_any base g A c D L N 0 r w HW.out (by have := HR.out; omega) (by omega) hN hD hb).mono ?_
  rintro e w1 ⟨rfl, A1, c1, hW1, hC, hA⟩
  go_wp2
  go_ret
  rw [HR.out]
  have e0 : L + 0 % 2 ^ r * 2 ^ (N % 8) = L := by simp
  rw [e0, show (N % 8 + r) / 8 = (N % 8 + 7) / 8 by have := HR.out; omega, show N + r = (N + 7) / 8 * 8 by have := HR.out; omega] at hW1
  have e1 : L / 256 ^ ((N % 8 + 7) / 8) = 0 := by
    have hl := HL.out
    by_cases hz : N % 8 = 0
    · rw [hz] at hl ⊢
      simp at hl ⊢
      omega
    · rw [show (N % 8 + 7) / 8 = 1 by omega]
      have : 2 ^ (N % 8) ≤ 2 ^ 7 := Nat.pow_le_pow_right (by omega) (by omega)
      omega
  rw [e1] at hW1
  exact ⟨rfl, A1, c1, hW1, hC, hA⟩
def Fin (w : World) (base g : Nat) (A : Option Addr) (D : List UInt8) (N : Nat) (e : Ending) (w' : World) : Prop :=
  ∃ A' c', e = .returned (.slice A' D.length c') ∧ Wr w' base g none 0 [] 0 N ∧ w'.ownsRow base 5 1 (.slice A' D.length c') D.length (D.map bv) ∧ Chg w w' (Its g A) ∧ (A' = A ∨ ∃ b, w.heap.size ≤ b ∧ A' = some ⟨b, 0, none⟩)
theorem finish_any (base g : Nat) (A : Option Addr) (c : Nat) (D : List UInt8) (L N : Nat) (w : World) (hW : Wr w base g A c D L N) (hN : N ≤ 1099511627776) (hD : D.length ≤ 1099511627776) (hb : base ≤ g) :
    Calls Try.prog 18 #[.pointer (some ⟨g, 0, none⟩)] w (Fin w base g A (D ++ leB L ((N % 8 + 7) / 8)) ((N + 7) / 8 * 8)) := by
  have HW := Lib.hid hW
  obtain ⟨D1, hD1⟩ : ∃ D1, D ++ leB L ((N % 8 + 7) / 8) = D1 := ⟨_, rfl⟩
  have hal := align_any base g A c D L N w hW hN hD hb
  rw [hD1] at hal ⊢
  have HAL := Lib.hid hal
  clear hW hD1 hal
  go_enter Try.func18, Try.ntmps18
  go_wp2_with fail
  refine HAL.out.mono ?_
  rintro e w1 ⟨rfl, A1, c1, hW1, hC, hA⟩
  have HW1 := Lib.hid hW1
  have HC := Lib.hid hC
  have HA := Lib.hid hA
  clear hW1 hC hA
  go_wp2_with fail
  refine (take_any base g A1 c1 D1 0 _ w1 HW1.out).mono ?_
  rintro e w2 ⟨rfl, hW2, hO2, hC2⟩
  have HW2 := Lib.hid hW2
  have HC2 := Lib.hid hC2
  have HO2 := Lib.hid hO2
  clear hW2 hO2 hC2
  go_wp2
  go_ret
  exact ⟨A1, c1, rfl, HW2.out, HO2.out, HC.out.trans HC2.out (fun k _ h => .inl h), HA.out⟩
theorem Wr.its {w : World} {base g c L N : Nat} {A : Option Addr} {D : List UInt8} (h : Wr w base g A c D L N) (hb : base ≤ g) {B : Nat} (hB : B ≤ base) : ∀ k, k < B → ¬ Its g A k := by
  intro k hk h1
  rcases h1 with h1 | h1
  · omega
  · rcases h.2.2.2 with ⟨h2, _⟩ | ⟨b, cap, cur, h2, h3, _⟩
    · injection h2 with h2
      subst h2
      cases h1
    · injection h2 with h2
      subst h2
      injection h1 with h1
      simp at h1
      omega
theorem awake_any (w : World) : Calls Try.prog 6 #[] w fun e w' => e = .returned (.bool true) ∧ Below w.heap.size w w' := by
  go_enter Try.func6, Try.ntmps6
  go_wp2_with fail
  refine (new_any w).mono ?_
  rintro e w1 ⟨rfl, rfl⟩
  have HW := Lib.hid (new_wr w w.heap.size)
  have HB := Lib.hid ((Below.refl w.heap.size w).alloc (Nat.le_refl _) (.cells #[.slice none 0 0, .int .u64 0, .int .i64 0] 48))
  have hpn : ∀ w', (binOp .eql 24 (.pointer (some ⟨w.heap.size, 0, none⟩)) (.pointer none)).run Try.prog w' = .ok (.bool false) w' := fun w' => by kernel_rfl
  go_wp2_with fail
  refine (put_any w.heap.size w.heap.size none 0 [] 0 0 2 3 _ HW.out (by omega) (by omega) (by omega) (by simp) (Nat.le_refl _)).mono ?_
  rintro e w2 ⟨rfl, A2, c2, hW2, hC2, _⟩
  have HW2 := Lib.hid hW2
  have HB2 := Lib.hid (Chg.below HB.out hC2 (HW.out.its (Nat.le_refl _) (Nat.le_refl _)) (by simp))
  clear hW2 hC2 HW HB
  go_wp2_with fail
  refine (put_any w.heap.size w.heap.size A2 c2 _ _ _ 22 5 _ HW2.out (by omega) (by omega) (by omega) (by decide) (Nat.le_refl _)).mono ?_
  rintro e w3 ⟨rfl, A3, c3, hW3, hC3, _⟩
  have HW3 := Lib.hid hW3
  have HB3 := Lib.hid (Chg.below HB2.out hC3 (HW2.out.its (Nat.le_refl _) (Nat.le_refl _)) HB2.out.size)
  clear hW3 hC3 HW2 HB2
  go_wp2_with fail
  refine (take_any w.heap.size w.heap.size A3 c3 _ _ _ _ HW3.out).mono ?_
  rintro e w4 ⟨rfl, hW4, hO4, hC4⟩
  have HB4 := Lib.hid (Chg.below HB3.out hC4 (fun k hk h => by omega) HB3.out.size)
  have hB := Bs.of_own hO4
  obtain ⟨b, off, rfl, _, _, hc⟩ := hB.at_ (i := 0) (by decide)
  have hc' : w4.cell? ⟨b, off, none⟩ = some (.int .u8 178) := hc
  clear hW4 hO4 hC4 hB hc HB3 HW3
  go_wp2
  go_ret
  exact ⟨rfl, HB4.out⟩
end Go.Proofs.Ythpbiakjkmhfeaa
