/- Times. -/
import Derived.Test.YtdmglpnieiiigaaDoorH1
import Derived.Test.YtdmglpnieiiigaaDoorOver
import Derived.Test.YtdmglpnieiiigaaDoorBits
import Derived.Test.YtdmglpnieiiigaaDoorBlk
import Derived.Test.YtdmglpnieiiigaaDoorShapes
import Derived.LoopTactic
namespace Go.Proofs.YtdmglpnieiiigaaDoor
open Go.RowKit

structure RightT (y mo d h mi s : Int) : Prop where
  y0 : 1980 ≤ y
  y1 : y ≤ 2107
  m0 : 1 ≤ mo
  m1 : mo ≤ 12
  d0 : 1 ≤ d
  d1 : d ≤ 31
  h0 : 0 ≤ h
  h1 : h ≤ 23
  i0 : 0 ≤ mi
  i1 : mi ≤ 59
  s0 : 0 ≤ s
  s1 : s ≤ 58
  s2 : s % 2 = 0
theorem RightT.of {y mo d h mi s : Int} (hr : rightB y mo d h mi s = true) : RightT y mo d h mi s := by
  simp only [rightB, Bool.and_eq_true, decide_eq_true_eq] at hr
  obtain ⟨⟨⟨⟨⟨⟨⟨⟨⟨⟨a, b⟩, c⟩, e⟩, f⟩, g⟩, i⟩, j⟩, k⟩, l⟩, m⟩ := hr
  have h1 := days_le y mo
  have h2 := days_zero y mo
  exact ⟨a, b, by omega, by omega, c, by omega, f, g, i, j, k, l, m⟩
def dateI (y mo d : Int) : Int := (y - 1980) * 512 + mo * 32 + d
def clockI (h mi s : Int) : Int := h * 2048 + mi * 32 + s / 2
theorem dateI_bd {y mo d h mi s : Int} (hr : RightT y mo d h mi s) : 0 ≤ dateI y mo d ∧ dateI y mo d < 65536 := by
  obtain ⟨a1, a2, a3, a4, a5, a6, a7, a8, a9, a10, a11, a12, a13⟩ := hr
  unfold dateI
  omega
theorem clockI_bd {y mo d h mi s : Int} (hr : RightT y mo d h mi s) : 0 ≤ clockI h mi s ∧ clockI h mi s < 65536 := by
  obtain ⟨a1, a2, a3, a4, a5, a6, a7, a8, a9, a10, a11, a12, a13⟩ := hr
  unfold clockI
  omega
theorem enc_date {y mo d h mi s : Int} (hr : RightT y mo d h mi s) : IntKind.u16.wrap (bits BinOp.or IntKind.i64 (bits BinOp.or IntKind.i64 ((y - 1980) * 512) (mo * 32)) d) = dateI y mo d := by
  have hb := dateI_bd hr
  obtain ⟨a1, a2, a3, a4, a5, a6, a7, a8, a9, a10, a11, a12, a13⟩ := hr
  rw [bits_or_sum 9 _ (y - 1980) (mo * 32) (by omega) (by omega) (by omega) (by omega) (by omega),
    bits_or_sum 5 _ ((y - 1980) * 16 + mo) d (by omega) (by omega) (by omega) (by omega) (by omega), IntKind.wrap_u16]
  unfold dateI at *
  omega
theorem enc_clock {y mo d h mi s : Int} (hr : RightT y mo d h mi s) : IntKind.u16.wrap (bits BinOp.or IntKind.i64 (bits BinOp.or IntKind.i64 (h * 2048) (mi * 32)) (s / 2)) = clockI h mi s := by
  have hb := clockI_bd hr
  obtain ⟨a1, a2, a3, a4, a5, a6, a7, a8, a9, a10, a11, a12, a13⟩ := hr
  rw [bits_or_sum 11 _ h (mi * 32) (by omega) (by omega) (by omega) (by omega) (by omega),
    bits_or_sum 5 _ (h * 64 + mi) (s / 2) (by omega) (by omega) (by omega) (by omega) (by omega), IntKind.wrap_u16]
  unfold clockI at *
  omega
set_option maxHeartbeats 400000 in
theorem rencode_any (y mo d h mi s : Int) (w : World) (hr : RightT y mo d h mi s) :
    Calls Tryd.prog 25 #[tm y mo d h mi s] w fun e w' => e = .returned (.tuple #[.int .i64 (dateI y mo d), .int .i64 (clockI h mi s)]) ∧ Below w.heap.size w w' := by
  obtain ⟨a1, a2, a3, a4, a5, a6, a7, a8, a9, a10, a11, a12, a13⟩ := hr
  go_enter Tryd.func25, Tryd.ntmps25
  go_wp2
  go_quiet (fail)
  go_wp2
  go_ret2
  exact ⟨rfl, ((Below.refl _ _).alloc (Nat.le_refl _) _).drewN' _⟩
set_option maxHeartbeats 1000000 in
theorem encode_right (y mo d h mi s : Int) (w : World) (hb : rightB y mo d h mi s = true) :
    Calls Tryd.prog 20 #[tm y mo d h mi s] w fun e w' => e = .returned (.tuple #[.int .u16 (dateI y mo d), .int .u16 (clockI h mi s), .int .i64 0]) ∧ Below w.heap.size w w' := by
  have hr := RightT.of hb
  have e1 := enc_date hr
  have e2 := enc_clock hr
  obtain ⟨a1, a2, a3, a4, a5, a6, a7, a8, a9, a10, a11, a12, a13⟩ := hr
  have E1 := Lib.hid e1
  have E2 := Lib.hid e2
  clear e1 e2
  go_enter Tryd.func20, Tryd.ntmps20
  go_wp2_with (go_at_call 46; refine (dright_any _ _ _ _ _ _ _).mono ?_; rw [hb]; rintro e w1 ⟨rfl, hbw⟩; have k0 := fun o => (bcell hbw).1 w.heap.size o (by simp); have HB := Lib.hid hbw; clear hbw)
  go_ret3
  refine ⟨?_, ((Below.refl _ _).alloc (Nat.le_refl _) _).trans (HB.out.mono (by simp))⟩
  simp [E1.out, E2.out]
set_option maxHeartbeats 1000000 in
theorem encode_wrong (y mo d h mi s : Int) (w : World) (hb : rightB y mo d h mi s = false) :
    Calls Tryd.prog 20 #[tm y mo d h mi s] w fun e w' => e = .returned (.tuple #[.int .u16 0, .int .u16 0, .int .i64 34]) ∧ Below w.heap.size w w' := by
  go_enter Tryd.func20, Tryd.ntmps20
  go_wp2_with (go_at_call 46; refine (dright_any _ _ _ _ _ _ _).mono ?_; rw [hb]; rintro e w1 ⟨rfl, hbw⟩; have HB := Lib.hid hbw; clear hbw)
  go_ret3
  exact ⟨rfl, ((Below.refl _ _).alloc (Nat.le_refl _) _).trans (HB.out.mono (by simp))⟩
theorem rright_b {y mo d h mi s : Int} {r : Bool} (w : World) (hb : rightB y mo d h mi s = r) :
    Calls Tryd.prog 45 #[tm y mo d h mi s] w fun e w' => e = .returned (.bool r) ∧ Below w.heap.size w w' := by
  rw [← hb]; exact rright_any _ _ _ _ _ _ _
/-- What a call that only makes memory leaves of three blocks. -/
theorem keep3 {W w1 : World} (hb : Below W.heap.size W w1) (n : Nat) (hn : n + 1 + 1 < W.heap.size) :
    (∀ o, w1.cell? ⟨n, o, none⟩ = W.cell? ⟨n, o, none⟩) ∧ (∀ o, w1.cell? ⟨n + 1, o, none⟩ = W.cell? ⟨n + 1, o, none⟩) ∧ (∀ o, w1.cell? ⟨n + 1 + 1, o, none⟩ = W.cell? ⟨n + 1 + 1, o, none⟩) ∧ n + 1 + 1 < w1.heap.size :=
  ⟨fun o => hb.cell (p := ⟨n, o, none⟩) (by show n < _; omega), fun o => hb.cell (p := ⟨n + 1, o, none⟩) (by show n + 1 < _; omega), fun o => hb.cell (p := ⟨n + 1 + 1, o, none⟩) (by show n + 1 + 1 < _; omega), by have := hb.size; omega⟩
def rightD (a b : Int) : Bool := rightB (1980 + a / 512) (a / 32 % 16) (a % 32) (b / 2048) (b / 32 % 64) (b % 32 * 2)
abbrev tmD (a b : Int) : Value := tm (1980 + a / 512) (a / 32 % 16) (a % 32) (b / 2048) (b / 32 % 64) (b % 32 * 2)
theorem right_b {y mo d h mi s : Int} {r : Bool} (w : World) (hb : rightB y mo d h mi s = r) :
    Calls Tryd.prog 46 #[tm y mo d h mi s] w fun e w' => e = .returned (.bool r) ∧ Below w.heap.size w w' := by
  rw [← hb]; exact dright_any _ _ _ _ _ _ _
theorem and16 (n : Int) (h0 : 0 ≤ n) (h1 : n < 65536) (m : Nat) (k : Nat) (hm : m = 2 ^ k - 1) (hk : k ≤ 15) : bits .and .u16 n (m : Int) = n % ((2 ^ k : Nat) : Int) := by
  subst hm
  obtain ⟨a, rfl⟩ := Int.eq_ofNat_of_zero_le h0
  have hp : 2 ^ k ≤ 2 ^ 15 := Nat.pow_le_pow_right (by omega) hk
  have hp' : 0 < 2 ^ k := Nat.pow_pos (by omega)
  rw [u16_and_nat a _ (by omega) (by omega), Nat.and_two_pow_sub_one_eq_mod]
  omega
set_option maxHeartbeats 1000000 in
theorem decode_any (a b : Int) (w : World) (r : Bool) (hr : rightD a b = r) (a0 : 0 ≤ a) (a1 : a < 65536) (b0 : 0 ≤ b) (b1 : b < 65536) :
    Calls Tryd.prog 40 #[.int .u16 a, .int .u16 b] w fun e w' => e = .returned (.tuple #[if r then tmD a b else tm 0 0 0 0 0 0, .int .i64 (if r then 0 else 34)]) ∧ Below w.heap.size w w' := by
  have e1 : bits .and .u16 (a / 32) 15 = a / 32 % 16 := and16 _ (by omega) (by omega) 15 4 rfl (by omega)
  have e2 : bits .and .u16 a 31 = a % 32 := and16 _ (by omega) (by omega) 31 5 rfl (by omega)
  have e3 : bits .and .u16 (b / 32) 63 = b / 32 % 64 := and16 _ (by omega) (by omega) 63 6 rfl (by omega)
  have e4 : bits .and .u16 b 31 = b % 32 := and16 _ (by omega) (by omega) 31 5 rfl (by omega)
  have HR := Lib.hid hr
  clear hr
  go_enter Tryd.func40, Tryd.ntmps40
  go_wp2_with fail
  refine (right_b _ HR.out).mono ?_
  rintro e w1 ⟨rfl, hb1⟩
  have k0 := fun o => (bcell hb1).1 w.heap.size o (by simp; omega)
  have k1 := fun o => (bcell hb1).1 (w.heap.size + 1) o (by simp)
  have f0 := fun o => (bcell hb1).2 w.heap.size o (by simp; omega)
  have HB1 := Lib.hid hb1
  have hbw : Below w.heap.size w w1 := (((Below.refl w.heap.size w).alloc (Nat.le_refl _) _).alloc (by simp) _).trans (hb1.mono (by simp; omega))
  have HBW := Lib.hid hbw
  clear hb1 hbw
  rcases r with _ | _
  · go_wp2
    refine bodyPost_ret (v := .tuple #[tm 0 0 0 0 0 0, .int .i64 34]) (by simp [results, Tryd.results40, go_sem, k0]) rfl ⟨rfl, ?_⟩
    iterate 6 refine Below.setCell ?_ (by exact Nat.le_refl _) _
    exact HBW.out
  · go_wp2
    refine bodyPost_ret (v := .tuple #[tmD a b, .int .i64 0]) (by simp [results, Tryd.results40, go_sem, k0]) rfl ⟨rfl, ?_⟩
    iterate 6 refine Below.setCell ?_ (by exact Nat.le_refl _) _
    exact HBW.out
set_option maxHeartbeats 1000000 in
theorem rdecode_any (a b : Int) (w : World) (r : Bool) (hr : rightD a b = r) (a0 : 0 ≤ a) (a1 : a < 65536) (b0 : 0 ≤ b) (b1 : b < 65536) :
    Calls Tryd.prog 31 #[.int .i64 a, .int .i64 b] w fun e w' => e = .returned (.tuple #[if r then tmD a b else tm 0 0 0 0 0 0, .bool r]) ∧ Below w.heap.size w w' := by
  have HR := Lib.hid hr
  clear hr
  go_enter Tryd.func31, Tryd.ntmps31
  go_wp2_with fail
  refine (rright_b _ HR.out).mono ?_
  rintro e w1 ⟨rfl, hb1⟩
  have k0 := fun o => (bcell hb1).1 w.heap.size o (by simp; omega)
  have k1 := fun o => (bcell hb1).1 (w.heap.size + 1) o (by simp)
  have f0 := fun o => (bcell hb1).2 w.heap.size o (by simp; omega)
  have HB1 := Lib.hid hb1
  have hbw : Below w.heap.size w w1 := (((Below.refl w.heap.size w).alloc (Nat.le_refl _) _).alloc (by simp) _).trans (hb1.mono (by simp; omega))
  have HBW := Lib.hid hbw
  clear hb1 hbw
  rcases r with _ | _
  · go_wp2
    refine bodyPost_ret (v := .tuple #[tm 0 0 0 0 0 0, .bool false]) (by simp [results, Tryd.results31, go_sem, k0]) rfl ⟨rfl, ?_⟩
    iterate 6 refine Below.setCell ?_ (by exact Nat.le_refl _) _
    exact HBW.out
  · go_wp2
    refine bodyPost_ret (v := .tuple #[tmD a b, .bool true]) (by simp [results, Tryd.results31, go_sem, k0]) rfl ⟨rfl, ?_⟩
    iterate 6 refine Below.setCell ?_ (by exact Nat.le_refl _) _
    exact HBW.out
theorem back_date {y mo d h mi s : Int} (hr : RightT y mo d h mi s) : 1980 + dateI y mo d / 512 = y ∧ dateI y mo d / 32 % 16 = mo ∧ dateI y mo d % 32 = d := by
  obtain ⟨a1, a2, a3, a4, a5, a6, a7, a8, a9, a10, a11, a12, a13⟩ := hr
  unfold dateI
  omega
theorem back_clock {y mo d h mi s : Int} (hr : RightT y mo d h mi s) : clockI h mi s / 2048 = h ∧ clockI h mi s / 32 % 64 = mi ∧ clockI h mi s % 32 * 2 = s := by
  obtain ⟨a1, a2, a3, a4, a5, a6, a7, a8, a9, a10, a11, a12, a13⟩ := hr
  unfold clockI
  omega
theorem decode_back (y mo d h mi s : Int) (w : World) (hb : rightB y mo d h mi s = true) :
    Calls Tryd.prog 40 #[.int .u16 (dateI y mo d), .int .u16 (clockI h mi s)] w fun e w' => e = .returned (.tuple #[tm y mo d h mi s, .int .i64 0]) ∧ Below w.heap.size w w' := by
  have hr := RightT.of hb
  obtain ⟨e1, e2, e3⟩ := back_date hr
  obtain ⟨e4, e5, e6⟩ := back_clock hr
  have hd : rightD (dateI y mo d) (clockI h mi s) = true := by unfold rightD; rw [e1, e2, e3, e4, e5, e6, hb]
  have h1 := dateI_bd hr
  have h2 := clockI_bd hr
  refine (decode_any _ _ w true hd h1.1 h1.2 h2.1 h2.2).mono ?_
  rintro e w' ⟨rfl, hb'⟩
  refine ⟨?_, hb'⟩
  show Ending.returned (.tuple #[tmD (dateI y mo d) (clockI h mi s), .int .i64 0]) = _
  unfold tmD
  rw [e1, e2, e3, e4, e5, e6]
theorem encode_b {y mo d h mi s : Int} {r : Bool} (w : World) (hb : rightB y mo d h mi s = r) :
    Calls Tryd.prog 20 #[tm y mo d h mi s] w fun e w' => e = .returned (.tuple #[.int .u16 (if r then dateI y mo d else 0), .int .u16 (if r then clockI h mi s else 0), .int .i64 (if r then 0 else 34)]) ∧ Below w.heap.size w w' := by
  cases r
  · exact encode_wrong _ _ _ _ _ _ w hb
  · exact encode_right _ _ _ _ _ _ w hb
theorem decode_b {a b : Int} {r : Bool} (w : World) (hr : rightD a b = r) (a0 : 0 ≤ a) (a1 : a < 65536) (b0 : 0 ≤ b) (b1 : b < 65536) :
    Calls Tryd.prog 40 #[.int .u16 a, .int .u16 b] w fun e w' => e = .returned (.tuple #[tm (if r then 1980 + a / 512 else 0) (if r then a / 32 % 16 else 0) (if r then a % 32 else 0) (if r then b / 2048 else 0) (if r then b / 32 % 64 else 0) (if r then b % 32 * 2 else 0), .int .i64 (if r then 0 else 34)]) ∧ Below w.heap.size w w' := by
  have := decode_any a b w r hr a0 a1 b0 b1
  cases r <;> exact this
theorem rdecode_b {a b : Int} {r : Bool} (w : World) (hr : rightD a b = r) (a0 : 0 ≤ a) (a1 : a < 65536) (b0 : 0 ≤ b) (b1 : b < 65536) :
    Calls Tryd.prog 31 #[.int .i64 a, .int .i64 b] w fun e w' => e = .returned (.tuple #[tm (if r then 1980 + a / 512 else 0) (if r then a / 32 % 16 else 0) (if r then a % 32 else 0) (if r then b / 2048 else 0) (if r then b / 32 % 64 else 0) (if r then b % 32 * 2 else 0), .bool r]) ∧ Below w.heap.size w w' := by
  have := rdecode_any a b w r hr a0 a1 b0 b1
  cases r <;> exact this
end Go.Proofs.YtdmglpnieiiigaaDoor
