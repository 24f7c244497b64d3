import Derived.Test.YtfbjcdjjjggheaaW1
namespace Go.Proofs.Ytfbjcdjjjggheaa
open Go.RowKit

set_option maxHeartbeats 1000000 in
theorem awake_any (w : World) : Calls Try.prog 5 #[] w fun e w' => e = .returned (.bool true) ∧ Below w.heap.size w w' := by
  have I0 : Inv 4 6 0 0 0 := Inv.new (by decide)
  go_enter Try.func5, Try.ntmps5
  go_wp2_with fail
  refine (new_right 4 6 _ (by decide)).mono ?_
  rintro e w1 ⟨g, rfl, hg, hA1, hb1⟩
  have HB1 := Lib.hid hb1
  clear hb1
  go_wp2_with fail
  refine (add_any g 4 6 0 0 0 5 _ hA1 I0).mono ?_
  rw [show addC 4 6 0 0 5 = 9 from by decide, show addA 4 6 0 0 5 = 0 from by decide, show addS 4 6 0 0 5 = 0 from by decide, show addP 4 6 0 0 0 5 = 0 from by decide]
  rintro e w2 ⟨rfl, hA2, hL2⟩
  clear hA1
  go_wp2_with fail
  refine (add_any g 4 6 0 0 0 7 _ hA2 I0).mono ?_
  rw [show addC 4 6 0 0 7 = 13 from by decide, show addA 4 6 0 0 7 = 0 from by decide, show addS 4 6 0 0 7 = 0 from by decide, show addP 4 6 0 0 0 7 = 0 from by decide]
  rintro e w3 ⟨rfl, hA3, hL3⟩
  clear hA2
  go_wp2_with fail
  refine (add_any g 4 6 0 0 0 4 _ hA3 I0).mono ?_
  rw [show addC 4 6 0 0 4 = 0 from by decide]
  rintro e w4 ⟨rfl, hA4, hL4⟩
  have HL := Lib.hid ((hL2.trans hL3).trans hL4)
  clear hL2 hL3 hL4 hA4 hA3
  go_wp2
  go_ret
  exact ⟨rfl, HL.out.below HB1.out hg HB1.out.size⟩

/-- A slice of pairs of integers, as it lies. -/
def Pairs (w : World) (A : Option Addr) (len : Nat) (f h : Nat → Int) : Prop :=
  0 < len → ∃ b off, A = some ⟨b, off, none⟩ ∧ b < w.heap.size ∧ ∀ k, k < len → w.cell? ⟨b, off + k * 2, none⟩ = some (.int .i64 (f k)) ∧ w.cell? ⟨b, off + k * 2 + 1, none⟩ = some (.int .i64 (h k))
set_option maxHeartbeats 2000000 in
theorem quotaRoom_any (W S : Int) (A : Option Addr) (len cap : Nat) (f h : Nat → Int) (w : World) (hp : Pairs w A len f h) (hlen : len ≤ 9223372036854775807) :
    Calls Try.prog 4 #[.agg #[.int .i64 W, .int .i64 S], .slice A len cap] w fun e w' => e = .returned (.bool true) ∧ Below w.heap.size w w' := by
  have HP := Lib.hid hp
  clear hp
  by_cases hl : 60 < len
  · go_enter Try.func4, Try.ntmps4
    go_wp2_with fail
    refine (awake_any _).mono ?_
    rintro e w1 ⟨rfl, hb1⟩
    have HB := Lib.hid (((Below.refl _ _).alloc (Nat.le_refl w.heap.size) _).trans (hb1.mono (by simp)))
    clear hb1
    go_wp2
    go_ret
    exact ⟨rfl, HB.out⟩
  cases hr : rightQ W S
  · have HR := Lib.hid hr
    clear hr
    go_enter Try.func4, Try.ntmps4
    go_wp2_with fail
    refine (awake_any _).mono ?_
    rintro e w1 ⟨rfl, hb1⟩
    have k1 := fun o => (bcell hb1).1 w.heap.size o (by simp)
    have l1 : w.heap.size < w1.heap.size := by have := hb1.size; simp at this; omega
    have HB := Lib.hid (((Below.refl _ _).alloc (Nat.le_refl w.heap.size) _).trans (hb1.mono (by simp)))
    clear hb1
    go_wp2_with fail
    refine (new_wrong _ _ _ HR.out).mono ?_
    rintro e w2 ⟨rfl, hb2⟩
    have k2 := fun o => (bcell hb2).1 w.heap.size o l1
    have HB2 := Lib.hid (HB.out.trans (hb2.mono HB.out.size))
    clear hb2
    go_wp2_with fail
    refine (right_b _ HR.out).mono ?_
    rintro e w3 ⟨rfl, hb3⟩
    have HB3 := Lib.hid (HB2.out.trans (hb3.mono HB2.out.size))
    clear hb3
    go_wp2
    go_ret
    exact ⟨rfl, HB3.out⟩
  · have HR := Lib.hid hr
    clear hr
    go_enter Try.func4, Try.ntmps4
    go_wp2_with fail
    refine (awake_any _).mono ?_
    rintro e w1 ⟨rfl, hb1⟩
    have k1 := fun o => (bcell hb1).1 w.heap.size o (by simp)
    have HB := Lib.hid (((Below.refl _ _).alloc (Nat.le_refl w.heap.size) _).trans (hb1.mono (by simp)))
    clear hb1
    go_wp2_with fail
    refine (new_right _ _ _ HR.out).mono ?_
    rintro e w2 ⟨g, rfl, hg, hA2, hb2⟩
    have HB2 := Lib.hid (HB.out.trans (hb2.mono HB.out.size))
    have HG : Hid (w.heap.size ≤ g) := Nat.le_trans HB.out.size hg
    have HI := Lib.hid (Inv.new HR.out)
    have HA2 := Lib.hid hA2
    clear hb2 hA2 hg k1
    go_wp2
    go_loopw [7] (fun i wr => ∃ (k : Nat) (a s p : Int), k ≤ len ∧ i = .int .i64 k ∧ Hid (Acc wr g W S a s p) ∧ Hid (Inv W S a s p) ∧ Hid (Below w.heap.size w wr)) (fun i _ => len - (intOf i).toNat)
    case atStart => exact ⟨0, 0, 0, 0, Nat.zero_le _, rfl, HA2, HI, HB2⟩
    case round =>
      obtain ⟨k, a, s, p, hk, rfl, hA, hI, hB⟩ := hrel
      clear HA2 HI HB2 HB
      by_cases hlt : k < len
      · obtain ⟨b, off, rfl, hbl, hcells⟩ := HP.out (by omega)
        obtain ⟨hf, hh⟩ := hcells k hlt
        have cf := (hB.out.cell (p := ⟨b, off + k * 2, none⟩) hbl).trans hf
        have ch := (hB.out.cell (p := ⟨b, off + k * 2 + 1, none⟩) hbl).trans hh
        clear hf hh hcells hbl
        generalize h k = n at ch
        by_cases hz : f k = 0
        · rw [hz] at cf
          clear hz
          go_wp2_with fail
          refine (done_any g W S a s p n _ hA.out hI.out).mono ?_
          rintro e w3 ⟨rfl, hA3, hL3⟩
          have HA3 := Lib.hid hA3
          have HB3 := Lib.hid (hL3.below hB.out HG.out hB.out.size)
          clear hA3 hL3
          go_wp2
          go_roundw
          case rel => exact ⟨k + 1, _, _, _, by omega, by go_num, HA3, hI.out.done n, HB3⟩
          case measure => simp [intOf]; omega
        · have hz' : (f k == 0) = false := by simpa using hz
          generalize f k = m at cf hz'
          clear hz
          go_wp2_with fail
          refine (add_any g W S a s p n _ hA.out hI.out).mono ?_
          rintro e w3 ⟨rfl, hA3, hL3⟩
          have HA3 := Lib.hid hA3
          have HB3 := Lib.hid (hL3.below hB.out HG.out hB.out.size)
          clear hA3 hL3
          go_wp2
          go_roundw
          case rel => exact ⟨k + 1, _, _, _, by omega, by go_num, HA3, hI.out.add n, HB3⟩
          case measure => simp [intOf]; omega
      · go_wp2_with fail
        refine (room_any g W S a s p _ hA.out hI.out).mono ?_
        rintro e w3 ⟨rfl, hA3, hL3⟩
        have HB3 := Lib.hid (hL3.below hB.out HG.out hB.out.size)
        have HI := hI
        have HA3 := Lib.hid hA3
        clear hA3 hL3 hA hB hI
        have e1 : addC W S a s (min (S - s) (W - a) + 1) ≠ 0 := by
          unfold addC
          obtain ⟨i1, i2, i3, i4, i5, i6, i7, i8, i9, i10⟩ := HI.out
          rw [if_neg (by omega)]
          by_cases h2 : S - s < min (S - s) (W - a) + 1
          · rw [if_pos h2]; omega
          · rw [if_neg h2, if_pos (by omega)]; omega
        have e2 : addC W S a s (min (S - s) (W - a)) = 0 := by
          unfold addC
          obtain ⟨i1, i2, i3, i4, i5, i6, i7, i8, i9, i10⟩ := HI.out
          rw [if_neg (by omega), if_neg (by omega), if_neg (by omega)]
        have e3 : 0 ≤ min (S - s) (W - a) := by
          obtain ⟨i1, i2, i3, i4, i5, i6, i7, i8, i9, i10⟩ := HI.out
          omega
        have e4 : min (S - s) (W - a) ≤ 16777216 := by
          obtain ⟨i1, i2, i3, i4, i5, i6, i7, i8, i9, i10⟩ := HI.out
          omega
        have a1 : addA W S a s (min (S - s) (W - a) + 1) = a := if_neg e1
        have a2 : addS W S a s (min (S - s) (W - a) + 1) = s := if_neg e1
        have a3 : addP W S a s p (min (S - s) (W - a) + 1) = p := if_neg e1
        have b1 : addA W S a s (min (S - s) (W - a)) = a + min (S - s) (W - a) := if_pos e2
        have b2 : addS W S a s (min (S - s) (W - a)) = s + min (S - s) (W - a) := if_pos e2
        obtain ⟨P, b3⟩ : ∃ P, addP W S a s p (min (S - s) (W - a)) = P := ⟨_, rfl⟩
        have e5 : min (S - (s + min (S - s) (W - a))) (W - (a + min (S - s) (W - a))) = 0 := by omega
        have I2 := HI.out.add (min (S - s) (W - a))
        rw [b1, b2, b3] at I2
        have e6 : addC W S (a + min (S - s) (W - a)) (s + min (S - s) (W - a)) 0 = 0 := by
          obtain ⟨i1, i2, i3, i4, i5, i6, i7, i8, i9, i10⟩ := I2
          unfold addC
          rw [if_neg (by omega), if_neg (by omega), if_neg (by omega)]
        generalize min (S - s) (W - a) = R at *
        have E1 := Lib.hid e1
        have E2 := Lib.hid e2
        have E5 := Lib.hid e5
        have E6 := Lib.hid e6
        have A1 := Lib.hid a1
        have A2 := Lib.hid a2
        have A3 := Lib.hid a3
        have C1 := Lib.hid b1
        have C2 := Lib.hid b2
        have C3 := Lib.hid b3
        have HI2 := Lib.hid I2
        clear e1 e2 e5 e6 a1 a2 a3 b1 b2 b3 I2
        go_wp2_with fail
        refine (add_any g W S a s p (R + 1) _ HA3.out HI.out).mono ?_
        rw [A1.out, A2.out, A3.out]
        rintro e w4 ⟨rfl, hA4, hL4⟩
        have HA4 := Lib.hid hA4
        have HB4 := Lib.hid (hL4.below HB3.out HG.out HB3.out.size)
        clear hA4 hL4 HA3 HB3
        have e1 : (addC W S a s (R + 1) != 0) = true := by simpa using E1.out
        generalize addC W S a s (R + 1) = C at *
        go_wp2_with fail
        refine (add_any g W S a s p R _ HA4.out HI.out).mono ?_
        rw [C1.out, C2.out, C3.out, E2.out]
        rintro e w5 ⟨rfl, hA5, hL5⟩
        have HA5 := Lib.hid hA5
        have HB5 := Lib.hid (hL5.below HB4.out HG.out HB4.out.size)
        clear hA5 hL5 HA4 HB4
        go_wp2_with fail
        refine (room_any g W S _ _ P _ HA5.out HI2.out).mono ?_
        rw [E5.out]
        rintro e w6 ⟨rfl, hA6, hL6⟩
        have HA6 := Lib.hid hA6
        have HB6 := Lib.hid (hL6.below HB5.out HG.out HB5.out.size)
        clear hA6 hL6 HA5 HB5
        go_wp2_with fail
        refine (add_any g W S _ _ P 0 _ HA6.out HI2.out).mono ?_
        rw [E6.out]
        rintro e w7 ⟨rfl, hA7, hL7⟩
        have HB7 := Lib.hid (hL7.below HB6.out HG.out HB6.out.size)
        clear hA7 hL7 HA6 HB6
        go_wp2
        go_ret
        exact ⟨rfl, HB7.out⟩
end Go.Proofs.Ytfbjcdjjjggheaa
