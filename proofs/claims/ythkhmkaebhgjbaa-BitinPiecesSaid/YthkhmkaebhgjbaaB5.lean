/- BitinPieces: the law itself. -/
import Derived.Test.YthkhmkaebhgjbaaB4
namespace Go.Proofs.Ythkhmkaebhgjbaa
open Go.RowKit

theorem bits_same (b : List UInt8) (q t k : Nat) (hq : q ≤ b.length) (ht : t ≤ 8 * q) (hk : k ≤ 8 * q - t) : num (b.take q) / 2 ^ t % 2 ^ k = num b / 2 ^ t % 2 ^ k := by
  have hl : (b.take q).length = q := by simp; omega
  have h := fed_num (b.take q) (b.drop q) t (by rw [hl]; exact ht)
  rw [List.take_append_drop, hl] at h
  rw [h, show 2 ^ (8 * q - t) = 2 ^ k * 2 ^ (8 * q - t - k) by rw [← Nat.pow_add]; congr 1; omega, Nat.mul_left_comm, Nat.add_mul_mod_self_left]
theorem feed_more (b : List UInt8) (q t a : Nat) (hq : q ≤ b.length) (ht : t ≤ 8 * q) : num (b.take q) / 2 ^ t + num ((b.drop q).take a) * 2 ^ (8 * q - t) = num (b.take (q + a)) / 2 ^ t := by
  have hl : (b.take q).length = q := by simp; omega
  have h := fed_num (b.take q) ((b.drop q).take a) t (by rw [hl]; exact ht)
  rw [hl, ← List.take_add] at h
  exact h.symm
/-- The readers amid the law: all n bytes fed to one, q of them to the other, t bits taken. -/
def Amid (w : World) (base g1 g2 : Nat) (b : List UInt8) (n q t : Nat) : Prop := Two w base g1 g2 (num b / 2 ^ t) (8 * n - t) t n (num (b.take q) / 2 ^ t) (8 * q - t) t q
theorem amid_feed (base g1 g2 : Nat) (b : List UInt8) (n q t : Nat) (B : Option Addr) (a d : Nat) (w : World) (hT : Amid w base g1 g2 b n q t) (hn : b.length = n) (hB : Bs w (fun b => b < base) B a ((b.drop q).take a)) (hq : q + a ≤ n) (ht : t ≤ 8 * q) (hn2 : n ≤ 1000) (hb : base ≤ g2) (hbs : base ≤ w.heap.size) :
    Calls Try.prog 6 #[.pointer (some ⟨g2, 0, none⟩), .slice B a d] w fun e w' => e = .returned (.tuple #[]) ∧ Amid w' base g1 g2 b n (q + a) t ∧ Below base w w' := by
  refine (two_feed base g1 g2 _ _ t n _ _ t q B a d _ w hT (hB.mono (fun k hk => by omega)) (by omega) (by omega) (by omega) hb hbs).mono ?_
  rintro e w1 ⟨rfl, h, hb1⟩
  rw [feed_more b q t a (by omega) ht, show 8 * q - t + 8 * a = 8 * (q + a) - t by omega] at h
  exact ⟨rfl, h, hb1⟩
theorem div_pow (x t k : Nat) : x / 2 ^ t / 2 ^ k = x / 2 ^ (t + k) := by rw [Nat.div_div_eq_div_mul, ← Nat.pow_add]
/-- The other one's bits, then one's: both have been taken. -/
def Half (w : World) (base g1 g2 : Nat) (b : List UInt8) (n q t k : Nat) : Prop := Two w base g1 g2 (num b / 2 ^ (t + k)) (8 * n - (t + k)) (t + k) n (num (b.take q) / 2 ^ t) (8 * q - t) t q
theorem amid_one (base g1 g2 : Nat) (b : List UInt8) (n q t k : Nat) (w : World) (hT : Amid w base g1 g2 b n q t) (hn : b.length = n) (hq : q ≤ n) (ht : t ≤ 8 * q) (hn2 : n ≤ 1000) (hk : k ≤ 32) (hl : k ≤ 8 * q - t) (hb : base ≤ g1) (hbs : base ≤ w.heap.size) :
    Calls Try.prog 8 #[.pointer (some ⟨g1, 0, none⟩), .int .i64 (k : Nat)] w fun e w' => e = .returned (.tuple #[.int .u32 (num b / 2 ^ t % 2 ^ k : Nat), .bool true]) ∧ Half w' base g1 g2 b n q t k ∧ Below base w w' := by
  refine (two_bits base g2 g1 _ _ _ _ _ _ _ _ k w hT.symm (by omega) hk (by omega) hb hbs).mono ?_
  rintro e w1 ⟨rfl, h, hb1⟩
  rw [div_pow, show 8 * n - t - k = 8 * n - (t + k) by omega] at h
  exact ⟨rfl, h.symm, hb1⟩
theorem half_two (base g1 g2 : Nat) (b : List UInt8) (n q t k : Nat) (w : World) (hT : Half w base g1 g2 b n q t k) (hn : b.length = n) (hq : q ≤ n) (ht : t ≤ 8 * q) (hn2 : n ≤ 1000) (hk : k ≤ 32) (hl : k ≤ 8 * q - t) (hb : base ≤ g2) (hbs : base ≤ w.heap.size) :
    Calls Try.prog 8 #[.pointer (some ⟨g2, 0, none⟩), .int .i64 (k : Nat)] w fun e w' => e = .returned (.tuple #[.int .u32 (num b / 2 ^ t % 2 ^ k : Nat), .bool true]) ∧ Amid w' base g1 g2 b n q (t + k) ∧ Below base w w' := by
  refine (two_bits base g1 g2 _ _ _ _ _ _ _ _ k w hT (by omega) hk (by omega) hb hbs).mono ?_
  rintro e w1 ⟨rfl, h, hb1⟩
  rw [div_pow, show 8 * q - t - k = 8 * q - (t + k) by omega] at h
  rw [bits_same b q t k (by omega) ht hl]
  exact ⟨rfl, h, hb1⟩
theorem amid_none1 (base g1 g2 : Nat) (b : List UInt8) (n q t k : Nat) (w : World) (hT : Amid w base g1 g2 b n q t) (hn2 : n ≤ 1000) (hk : k ≤ 32) (hl : 8 * n - t < k) :
    Calls Try.prog 8 #[.pointer (some ⟨g1, 0, none⟩), .int .i64 (k : Nat)] w fun e w' => e = .returned (.tuple #[.int .u32 0, .bool false]) ∧ Amid w' base g1 g2 b n q t ∧ Below base w w' := by
  refine (two_none base g2 g1 _ _ _ _ _ _ _ _ k w hT.symm (by omega) hk (by omega)).mono ?_
  rintro e w1 ⟨rfl, h, hb1⟩
  exact ⟨rfl, h.symm, hb1⟩
theorem amid_none2 (base g1 g2 : Nat) (b : List UInt8) (n q t k : Nat) (w : World) (hT : Amid w base g1 g2 b n q t) (hq : q ≤ n) (hn2 : n ≤ 1000) (hk : k ≤ 32) (hl : 8 * n - t < k) :
    Calls Try.prog 8 #[.pointer (some ⟨g2, 0, none⟩), .int .i64 (k : Nat)] w fun e w' => e = .returned (.tuple #[.int .u32 0, .bool false]) ∧ Amid w' base g1 g2 b n q t ∧ Below base w w' := by
  refine (two_none base g1 g2 _ _ _ _ _ _ _ _ k w hT (by omega) hk (by omega)).mono ?_
  rintro e w1 ⟨rfl, h, hb1⟩
  exact ⟨rfl, h, hb1⟩
theorem drew_below {B : Nat} {a w : World} (h : Below B a w) (m : Nat) : Below B a (w.drewN m) := h.drewN' m
theorem amid_left (base g1 g2 : Nat) (b : List UInt8) (n q t : Nat) (w : World) (hT : Amid w base g1 g2 b n q t) (hq : q ≤ 1000) :
    Calls Try.prog 7 #[.pointer (some ⟨g2, 0, none⟩)] w fun e w' => e = .returned (.int .i64 (8 * q - t : Nat)) ∧ Amid w' base g1 g2 b n q t ∧ Below base w w' := by
  refine (two_left base g1 g2 _ _ _ _ _ _ _ _ w hT (by omega)).mono ?_
  rintro e w1 ⟨rfl, m, rfl⟩
  exact ⟨rfl, hT, (Below.refl _ _).drewN' m⟩
theorem amid_at2 (base g1 g2 : Nat) (b : List UInt8) (n q t : Nat) (w : World) (hT : Amid w base g1 g2 b n q t) (ht : t ≤ 10000) :
    Calls Try.prog 9 #[.pointer (some ⟨g2, 0, none⟩)] w fun e w' => e = .returned (.int .i64 (t : Nat)) ∧ Amid w' base g1 g2 b n q t ∧ Below base w w' := by
  refine (two_at base g1 g2 _ _ _ _ _ _ _ _ w hT (by omega)).mono ?_
  rintro e w1 ⟨rfl, m, rfl⟩
  exact ⟨rfl, hT, (Below.refl _ _).drewN' m⟩
theorem amid_at1 (base g1 g2 : Nat) (b : List UInt8) (n q t : Nat) (w : World) (hT : Amid w base g1 g2 b n q t) (ht : t ≤ 10000) :
    Calls Try.prog 9 #[.pointer (some ⟨g1, 0, none⟩)] w fun e w' => e = .returned (.int .i64 (t : Nat)) ∧ Amid w' base g1 g2 b n q t ∧ Below base w w' := by
  refine (two_at base g2 g1 _ _ _ _ _ _ _ _ w hT.symm (by omega)).mono ?_
  rintro e w1 ⟨rfl, m, rfl⟩
  exact ⟨rfl, hT, (Below.refl _ _).drewN' m⟩
end Go.Proofs.Ythkhmkaebhgjbaa
