import Derived.Test.YtfjbjfebopabaaaW5
import Derived.Test.YtfjbjfebopabaaaBits
namespace Go.Proofs.Ytfjbjfebopabaaa
open Go.RowKit

structure RightT (y mo d h mi s : Int) : Prop where
  y0 : 1980 ≤ y
  y1 : y ≤ 2107
  m0 : 1 ≤ mo
  m1 : mo ≤ 12
  d0 : 1 ≤ d
  d1 : d ≤ 31
  h0 : 0 ≤ h
  h1 : h ≤ 23
  i0 : 0 ≤ mi
  i1 : mi ≤ 59
  s0 : 0 ≤ s
  s1 : s ≤ 58
  s2 : s % 2 = 0
theorem RightT.of {y mo d h mi s : Int} (hr : rightB y mo d h mi s = true) : RightT y mo d h mi s := by
  simp only [rightB, Bool.and_eq_true, decide_eq_true_eq] at hr
  obtain ⟨⟨⟨⟨⟨⟨⟨⟨⟨⟨a, b⟩, c⟩, e⟩, f⟩, g⟩, i⟩, j⟩, k⟩, l⟩, m⟩ := hr
  have h1 := days_le y mo
  have h2 := days_zero y mo
  exact ⟨a, b, by omega, by omega, c, by omega, f, g, i, j, k, l, m⟩
def dateI (y mo d : Int) : Int := (y - 1980) * 512 + mo * 32 + d
def clockI (h mi s : Int) : Int := h * 2048 + mi * 32 + s / 2
theorem dateI_bd {y mo d h mi s : Int} (hr : RightT y mo d h mi s) : 0 ≤ dateI y mo d ∧ dateI y mo d < 65536 := by
  obtain ⟨a1, a2, a3, a4, a5, a6, a7, a8, a9, a10, a11, a12, a13⟩ := hr
  unfold dateI
  omega
theorem clockI_bd {y mo d h mi s : Int} (hr : RightT y mo d h mi s) : 0 ≤ clockI h mi s ∧ clockI h mi s < 65536 := by
  obtain ⟨a1, a2, a3, a4, a5, a6, a7, a8, a9, a10, a11, a12, a13⟩ := hr
  unfold clockI
  omega
theorem enc_date {y mo d h mi s : Int} (hr : RightT y mo d h mi s) : IntKind.u16.wrap (bits BinOp.or IntKind.i64 (bits BinOp.or IntKind.i64 ((y - 1980) * 512) (mo * 32)) d) = dateI y mo d := by
  have hb := dateI_bd hr
  obtain ⟨a1, a2, a3, a4, a5, a6, a7, a8, a9, a10, a11, a12, a13⟩ := hr
  rw [bits_or_sum 9 _ (y - 1980) (mo * 32) (by omega) (by omega) (by omega) (by omega) (by omega),
    bits_or_sum 5 _ ((y - 1980) * 16 + mo) d (by omega) (by omega) (by omega) (by omega) (by omega), IntKind.wrap_u16]
  unfold dateI at *
  omega
theorem enc_clock {y mo d h mi s : Int} (hr : RightT y mo d h mi s) : IntKind.u16.wrap (bits BinOp.or IntKind.i64 (bits BinOp.or IntKind.i64 (h * 2048) (mi * 32)) (s / 2)) = clockI h mi s := by
  have hb := clockI_bd hr
  obtain ⟨a1, a2, a3, a4, a5, a6, a7, a8, a9, a10, a11, a12, a13⟩ := hr
  rw [bits_or_sum 11 _ h (mi * 32) (by omega) (by omega) (by omega) (by omega) (by omega),
    bits_or_sum 5 _ (h * 64 + mi) (s / 2) (by omega) (by omega) (by omega) (by omega) (by omega), IntKind.wrap_u16]
  unfold clockI at *
  omega
set_option maxHeartbeats 400000 in
theorem rencode_any (y mo d h mi s : Int) (w : World) (hr : RightT y mo d h mi s) :
    Calls Try.prog 12 #[tm y mo d h mi s] w fun e w' => e = .returned (.tuple #[.int .i64 (dateI y mo d), .int .i64 (clockI h mi s)]) ∧ Below w.heap.size w w' := by
  obtain ⟨a1, a2, a3, a4, a5, a6, a7, a8, a9, a10, a11, a12, a13⟩ := hr
  go_enter Try.func12, Try.ntmps12
  go_wp2
  go_quiet (fail)
  go_wp2
  go_ret2
  exact ⟨rfl, ((Below.refl _ _).alloc (Nat.le_refl _) _).drewN' _⟩
set_option maxHeartbeats 1000000 in
theorem encode_right (y mo d h mi s : Int) (w : World) (hb : rightB y mo d h mi s = true) :
    Calls Try.prog 8 #[tm y mo d h mi s] w fun e w' => e = .returned (.tuple #[.int .u16 (dateI y mo d), .int .u16 (clockI h mi s), .int .i64 0]) ∧ Below w.heap.size w w' := by
  have hr := RightT.of hb
  have e1 := enc_date hr
  have e2 := enc_clock hr
  obtain ⟨a1, a2, a3, a4, a5, a6, a7, a8, a9, a10, a11, a12, a13⟩ := hr
  have E1 := Lib.hid e1
  have E2 := Lib.hid e2
  clear e1 e2
  go_enter Try.func8, Try.ntmps8
  go_wp2_with (go_at_call 11; refine (right_any _ _ _ _ _ _ _).mono ?_; rw [hb]; rintro e w1 ⟨rfl, hbw⟩; have k0 := fun o => (bcell hbw).1 w.heap.size o (by simp); have HB := Lib.hid hbw; clear hbw)
  go_ret3
  refine ⟨?_, ((Below.refl _ _).alloc (Nat.le_refl _) _).trans (HB.out.mono (by simp))⟩
  simp [E1.out, E2.out]
set_option maxHeartbeats 1000000 in
theorem encode_wrong (y mo d h mi s : Int) (w : World) (hb : rightB y mo d h mi s = false) :
    Calls Try.prog 8 #[tm y mo d h mi s] w fun e w' => e = .returned (.tuple #[.int .u16 0, .int .u16 0, .int .i64 34]) ∧ Below w.heap.size w w' := by
  go_enter Try.func8, Try.ntmps8
  go_wp2_with (go_at_call 11; refine (right_any _ _ _ _ _ _ _).mono ?_; rw [hb]; rintro e w1 ⟨rfl, hbw⟩; have HB := Lib.hid hbw; clear hbw)
  go_ret3
  exact ⟨rfl, ((Below.refl _ _).alloc (Nat.le_refl _) _).trans (HB.out.mono (by simp))⟩
set_option maxHeartbeats 400000 in
theorem awake_any (w : World) : Calls Try.prog 6 #[] w fun e w' => e = .returned (.bool true) ∧ Below w.heap.size w w' := by
  go_enter Try.func6, Try.ntmps6
  go_wp2_with (go_at_call 8; refine (encode_right 2024 5 6 7 8 10 _ (by decide)).mono ?_; rintro e w1 ⟨rfl, hbw⟩; simp only [show dateI 2024 5 6 = 22694 from by decide, show clockI 7 8 10 = 14597 from by decide]; have HB := Lib.hid hbw; clear hbw)
  go_ret
  exact ⟨rfl, HB.out⟩
end Go.Proofs.Ytfjbjfebopabaaa
