/- Names, by the page. -/
import Derived.Lib.ValidLaws
namespace Go.Proofs.YtdmglpnieiiigaaDoor
open Go.RowKit

def utfN (c : Nat) : List UInt8 :=
  if 1114111 < c ∨ (55296 ≤ c ∧ c ≤ 57343) then []
  else if c < 128 then [UInt8.ofNat c]
  else if c < 2048 then [UInt8.ofNat (192 + c / 64), UInt8.ofNat (128 + c % 64)]
  else if c < 65536 then [UInt8.ofNat (224 + c / 4096), UInt8.ofNat (128 + c / 64 % 64), UInt8.ofNat (128 + c % 64)]
  else [UInt8.ofNat (240 + c / 262144), UInt8.ofNat (128 + c / 4096 % 64), UInt8.ofNat (128 + c / 64 % 64), UInt8.ofNat (128 + c % 64)]
def utfL (c : Int) : List UInt8 := if c < 0 then [] else utfN c.toNat
def lead (b : Nat) : Nat × Nat := if 240 ≤ b then (b - 240, 4) else if 224 ≤ b then (b - 224, 3) else if 192 ≤ b then (b - 192, 2) else (b, 1)
def valK (l : List UInt8) (v : Nat) : Nat → Nat
  | 0 => v
  | k + 1 => valK l v k * 64 + ((l.getD (k + 1) 0).toNat - 128)
def contK (l : List UInt8) (k : Nat) : Prop := ∀ j, j < k → 128 ≤ (l.getD (j + 1) 0).toNat ∧ (l.getD (j + 1) 0).toNat ≤ 191
def contB (l : List UInt8) : Nat → Bool
  | 0 => true
  | k + 1 => contB l k && (decide (128 ≤ (l.getD (k + 1) 0).toNat) && decide ((l.getD (k + 1) 0).toNat ≤ 191))
def refT (l : List UInt8) (v n : Nat) : Nat × Nat := if n ≤ l.length ∧ contB l (n - 1) = true ∧ utfN (valK l v (n - 1)) = l.take n then (valK l v (n - 1), n) else (0, 0)
def refR (l : List UInt8) : Nat × Nat := if l = [] then (0, 0) else refT l (lead (l.getD 0 0).toNat).1 (lead (l.getD 0 0).toNat).2
theorem u8of (x : Nat) (b : UInt8) : UInt8.ofNat x = b ↔ x % 256 = b.toNat := by
  rw [← UInt8.toNat_inj, UInt8.toNat_ofNat']
def refN (n b0 b1 b2 b3 : Nat) : Nat × Nat :=
  if b0 < 128 then (b0, 1)
  else if b0 < 192 then (0, 0)
  else if b0 < 224 then (if 2 ≤ n ∧ (128 ≤ b1 ∧ b1 ≤ 191) ∧ 128 ≤ (b0 - 192) * 64 + (b1 - 128) then ((b0 - 192) * 64 + (b1 - 128), 2) else (0, 0))
  else if b0 < 240 then (if 3 ≤ n ∧ (128 ≤ b1 ∧ b1 ≤ 191) ∧ (128 ≤ b2 ∧ b2 ≤ 191) ∧ 2048 ≤ ((b0 - 224) * 64 + (b1 - 128)) * 64 + (b2 - 128) ∧ ¬ (55296 ≤ ((b0 - 224) * 64 + (b1 - 128)) * 64 + (b2 - 128) ∧ ((b0 - 224) * 64 + (b1 - 128)) * 64 + (b2 - 128) ≤ 57343) then (((b0 - 224) * 64 + (b1 - 128)) * 64 + (b2 - 128), 3) else (0, 0))
  else (if 4 ≤ n ∧ (128 ≤ b1 ∧ b1 ≤ 191) ∧ (128 ≤ b2 ∧ b2 ≤ 191) ∧ (128 ≤ b3 ∧ b3 ≤ 191) ∧ 65536 ≤ (((b0 - 240) * 64 + (b1 - 128)) * 64 + (b2 - 128)) * 64 + (b3 - 128) ∧ (((b0 - 240) * 64 + (b1 - 128)) * 64 + (b2 - 128)) * 64 + (b3 - 128) ≤ 1114111 then ((((b0 - 240) * 64 + (b1 - 128)) * 64 + (b2 - 128)) * 64 + (b3 - 128), 4) else (0, 0))
theorem utf1 (b0 : UInt8) (h : b0.toNat < 192) : utfN b0.toNat = [b0] ↔ b0.toNat < 128 := by
  unfold utfN
  rw [if_neg (by omega)]
  by_cases h1 : b0.toNat < 128
  · rw [if_pos h1]
    simp only [List.cons.injEq, and_true, u8of]
    omega
  · rw [if_neg h1, if_pos (by omega)]
    simp; omega
theorem utf2 (b0 b1 : UInt8) (h : 192 ≤ b0.toNat) (h' : b0.toNat < 224) (c1 : 128 ≤ b1.toNat ∧ b1.toNat ≤ 191) : utfN ((b0.toNat - 192) * 64 + (b1.toNat - 128)) = [b0, b1] ↔ 128 ≤ (b0.toNat - 192) * 64 + (b1.toNat - 128) := by
  unfold utfN
  rw [if_neg (by omega)]
  by_cases h1 : (b0.toNat - 192) * 64 + (b1.toNat - 128) < 128
  · rw [if_pos h1]
    simp; omega
  · rw [if_neg h1, if_pos (by omega)]
    simp only [List.cons.injEq, and_true, u8of]
    omega
theorem utf3 (b0 b1 b2 : UInt8) (h : 224 ≤ b0.toNat) (h' : b0.toNat < 240) (c1 : 128 ≤ b1.toNat ∧ b1.toNat ≤ 191) (c2 : 128 ≤ b2.toNat ∧ b2.toNat ≤ 191) :
    utfN (((b0.toNat - 224) * 64 + (b1.toNat - 128)) * 64 + (b2.toNat - 128)) = [b0, b1, b2] ↔ 2048 ≤ ((b0.toNat - 224) * 64 + (b1.toNat - 128)) * 64 + (b2.toNat - 128) ∧ ¬ (55296 ≤ ((b0.toNat - 224) * 64 + (b1.toNat - 128)) * 64 + (b2.toNat - 128) ∧ ((b0.toNat - 224) * 64 + (b1.toNat - 128)) * 64 + (b2.toNat - 128) ≤ 57343) := by
  unfold utfN
  by_cases h0 : 55296 ≤ ((b0.toNat - 224) * 64 + (b1.toNat - 128)) * 64 + (b2.toNat - 128) ∧ ((b0.toNat - 224) * 64 + (b1.toNat - 128)) * 64 + (b2.toNat - 128) ≤ 57343
  · rw [if_pos (.inr h0)]
    simp only [reduceCtorEq, false_iff]
    omega
  · rw [if_neg (by omega)]
    by_cases h1 : ((b0.toNat - 224) * 64 + (b1.toNat - 128)) * 64 + (b2.toNat - 128) < 128
    · rw [if_pos h1]
      simp; omega
    · rw [if_neg h1]
      by_cases h2 : ((b0.toNat - 224) * 64 + (b1.toNat - 128)) * 64 + (b2.toNat - 128) < 2048
      · rw [if_pos h2]
        simp; omega
      · rw [if_neg h2, if_pos (by omega)]
        simp only [List.cons.injEq, and_true, u8of]
        omega
theorem utf4 (b0 b1 b2 b3 : UInt8) (h : 240 ≤ b0.toNat) (c1 : 128 ≤ b1.toNat ∧ b1.toNat ≤ 191) (c2 : 128 ≤ b2.toNat ∧ b2.toNat ≤ 191) (c3 : 128 ≤ b3.toNat ∧ b3.toNat ≤ 191) :
    utfN ((((b0.toNat - 240) * 64 + (b1.toNat - 128)) * 64 + (b2.toNat - 128)) * 64 + (b3.toNat - 128)) = [b0, b1, b2, b3] ↔ 65536 ≤ (((b0.toNat - 240) * 64 + (b1.toNat - 128)) * 64 + (b2.toNat - 128)) * 64 + (b3.toNat - 128) ∧ (((b0.toNat - 240) * 64 + (b1.toNat - 128)) * 64 + (b2.toNat - 128)) * 64 + (b3.toNat - 128) ≤ 1114111 := by
  have hb := b0.toNat_lt
  obtain ⟨v, hv⟩ : ∃ v, (((b0.toNat - 240) * 64 + (b1.toNat - 128)) * 64 + (b2.toNat - 128)) * 64 + (b3.toNat - 128) = v := ⟨_, rfl⟩
  rw [hv]
  unfold utfN
  by_cases h0 : 1114111 < v ∨ (55296 ≤ v ∧ v ≤ 57343)
  · rw [if_pos h0]
    simp only [reduceCtorEq, false_iff]
    omega
  · rw [if_neg h0]
    by_cases h1 : v < 128
    · rw [if_pos h1]
      simp; omega
    · rw [if_neg h1]
      by_cases h2 : v < 2048
      · rw [if_pos h2]
        simp; omega
      · rw [if_neg h2]
        by_cases h3 : v < 65536
        · rw [if_pos h3]
          simp; omega
        · rw [if_neg h3]
          simp only [List.cons.injEq, and_true, u8of]
          omega
theorem contB_iff (l : List UInt8) : ∀ k, contB l k = true ↔ contK l k
  | 0 => ⟨fun _ j hj => by omega, fun _ => rfl⟩
  | k + 1 => by
    unfold contB
    simp only [Bool.and_eq_true, decide_eq_true_eq, contB_iff l k]
    constructor
    · rintro ⟨h, h1, h2⟩ j hj
      by_cases e : j = k
      · subst e; exact ⟨h1, h2⟩
      · exact h j (by omega)
    · intro h
      exact ⟨fun j hj => h j (by omega), h k (by omega)⟩
theorem lead1 {b : Nat} (h : b < 192) : lead b = (b, 1) := by unfold lead; rw [if_neg (by omega), if_neg (by omega), if_neg (by omega)]
theorem lead2 {b : Nat} (h : 192 ≤ b) (h' : b < 224) : lead b = (b - 192, 2) := by unfold lead; rw [if_neg (by omega), if_neg (by omega), if_pos h]
theorem lead3 {b : Nat} (h : 224 ≤ b) (h' : b < 240) : lead b = (b - 224, 3) := by unfold lead; rw [if_neg (by omega), if_pos h]
theorem lead4 {b : Nat} (h : 240 ≤ b) : lead b = (b - 240, 4) := by unfold lead; rw [if_pos h]
theorem ite_pair {p q : Prop} [Decidable p] [Decidable q] (h : p ↔ q) (x y : Nat × Nat) : (if p then x else y) = if q then x else y := by
  by_cases hp : p
  · rw [if_pos hp, if_pos (h.1 hp)]
  · rw [if_neg hp, if_neg (fun e => hp (h.2 e))]
theorem valK1 (b0 b1 : UInt8) (t : List UInt8) (v : Nat) : valK (b0 :: b1 :: t) v 1 = v * 64 + (b1.toNat - 128) := by
  have e : (b0 :: b1 :: t).getD 1 0 = b1 := rfl
  have h : valK (b0 :: b1 :: t) v 1 = v * 64 + (((b0 :: b1 :: t).getD 1 0).toNat - 128) := rfl
  rw [h, e]
theorem valK2 (b0 b1 b2 : UInt8) (t : List UInt8) (v : Nat) : valK (b0 :: b1 :: b2 :: t) v 2 = (v * 64 + (b1.toNat - 128)) * 64 + (b2.toNat - 128) := by
  have e : (b0 :: b1 :: b2 :: t).getD 2 0 = b2 := rfl
  have h : valK (b0 :: b1 :: b2 :: t) v 2 = valK (b0 :: b1 :: b2 :: t) v 1 * 64 + (((b0 :: b1 :: b2 :: t).getD 2 0).toNat - 128) := rfl
  rw [h, valK1, e]
theorem valK3 (b0 b1 b2 b3 : UInt8) (t : List UInt8) (v : Nat) : valK (b0 :: b1 :: b2 :: b3 :: t) v 3 = ((v * 64 + (b1.toNat - 128)) * 64 + (b2.toNat - 128)) * 64 + (b3.toNat - 128) := by
  have e : (b0 :: b1 :: b2 :: b3 :: t).getD 3 0 = b3 := rfl
  have h : valK (b0 :: b1 :: b2 :: b3 :: t) v 3 = valK (b0 :: b1 :: b2 :: b3 :: t) v 2 * 64 + (((b0 :: b1 :: b2 :: b3 :: t).getD 3 0).toNat - 128) := rfl
  rw [h, valK2, e]
theorem refT_at (l : List UInt8) (v n k : Nat) (hk : n - 1 = k) : refT l v n = if n ≤ l.length ∧ contB l k = true ∧ utfN (valK l v k) = l.take n then (valK l v k, n) else (0, 0) := by
  subst hk; rfl
theorem refR_N (l : List UInt8) (hne : l ≠ []) : refR l = refN l.length (l.getD 0 0).toNat (l.getD 1 0).toNat (l.getD 2 0).toNat (l.getD 3 0).toNat := by
  unfold refR
  rw [if_neg hne]
  rcases l with _ | ⟨b0, t⟩
  · exact absurd rfl hne
  have e0 : (b0 :: t).getD 0 0 = b0 := rfl
  rw [e0]
  by_cases h1 : b0.toNat < 192
  · rw [lead1 h1]
    unfold refN
    have et : refT (b0 :: t) b0.toNat 1 = if b0.toNat < 128 then (b0.toNat, 1) else (0, 0) := by
      unfold refT
      refine ite_pair ?_ _ _
      constructor
      · intro h; exact (utf1 b0 h1).1 h.2.2
      · intro h; exact ⟨by simp, rfl, (utf1 b0 h1).2 h⟩
    show refT (b0 :: t) b0.toNat 1 = _
    rw [et, if_pos h1]
  by_cases h2 : b0.toNat < 224
  · rw [lead2 (by omega) h2]
    show refT _ _ 2 = _
    rw [refT_at _ _ 2 1 rfl]
    unfold refN
    rw [if_neg (show ¬ b0.toNat < 128 by omega), if_neg h1, if_pos h2]
    rcases t with _ | ⟨b1, t⟩
    · rw [if_neg (by simp), if_neg (by simp)]
    · rw [valK1]
      refine ite_pair ?_ _ _
      simp only [contB, List.getD_cons_succ, List.getD_cons_zero, List.take_succ_cons, List.take_zero, Bool.true_and, Bool.and_eq_true, decide_eq_true_eq, Nat.zero_add]
      constructor
      · rintro ⟨a, c, d⟩
        exact ⟨a, c, (utf2 b0 b1 (by omega) h2 c).1 d⟩
      · rintro ⟨a, c, d⟩
        exact ⟨a, c, (utf2 b0 b1 (by omega) h2 c).2 d⟩
  by_cases h3 : b0.toNat < 240
  · rw [lead3 (by omega) h3]
    show refT _ _ 3 = _
    rw [refT_at _ _ 3 2 rfl]
    unfold refN
    rw [if_neg (show ¬ b0.toNat < 128 by omega), if_neg h1, if_neg h2, if_pos h3]
    rcases t with _ | ⟨b1, _ | ⟨b2, t⟩⟩
    · rw [if_neg (by simp), if_neg (by simp)]
    · rw [if_neg (by simp), if_neg (by simp)]
    · rw [valK2]
      refine ite_pair ?_ _ _
      simp only [contB, Nat.reduceAdd, List.getD_cons_succ, List.getD_cons_zero, List.take_succ_cons, List.take_zero, Bool.true_and, Bool.and_eq_true, decide_eq_true_eq, Nat.zero_add]
      constructor
      · rintro ⟨a, ⟨c, c2⟩, d⟩
        exact ⟨a, c, c2, (utf3 b0 b1 b2 (by omega) h3 c c2).1 d⟩
      · rintro ⟨a, c, c2, d⟩
        exact ⟨a, ⟨c, c2⟩, (utf3 b0 b1 b2 (by omega) h3 c c2).2 d⟩
  · rw [lead4 (by omega)]
    show refT _ _ 4 = _
    rw [refT_at _ _ 4 3 rfl]
    unfold refN
    rw [if_neg (show ¬ b0.toNat < 128 by omega), if_neg h1, if_neg h2, if_neg h3]
    rcases t with _ | ⟨b1, _ | ⟨b2, _ | ⟨b3, t⟩⟩⟩
    · rw [if_neg (by simp), if_neg (by simp)]
    · rw [if_neg (by simp), if_neg (by simp)]
    · rw [if_neg (by simp), if_neg (by simp)]
    · rw [valK3]
      refine ite_pair ?_ _ _
      simp only [contB, Nat.reduceAdd, List.getD_cons_succ, List.getD_cons_zero, List.take_succ_cons, List.take_zero, Bool.true_and, Bool.and_eq_true, decide_eq_true_eq, Nat.zero_add]
      constructor
      · rintro ⟨a, ⟨⟨c, c2⟩, c3⟩, d⟩
        exact ⟨a, c, c2, c3, (utf4 b0 b1 b2 b3 (by omega) c c2 c3).1 d⟩
      · rintro ⟨a, c, c2, c3, d⟩
        exact ⟨a, ⟨⟨c, c2⟩, c3⟩, (utf4 b0 b1 b2 b3 (by omega) c c2 c3).2 d⟩
set_option maxRecDepth 100000 in
set_option maxHeartbeats 4000000 in
theorem refN_dec (n b0 b1 b2 b3 : Nat) (_hn : 1 ≤ n) (h0 : b0 < 256) (h1 : b1 < 256) (h2 : b2 < 256) (h3 : b3 < 256) :
    (Lib.decodeN n b0 b1 b2 b3 = (65533, 1) ∧ refN n b0 b1 b2 b3 = (0, 0)) ∨ (refN n b0 b1 b2 b3 = Lib.decodeN n b0 b1 b2 b3 ∧ 0 < (Lib.decodeN n b0 b1 b2 b3).2 ∧ ¬ ((Lib.decodeN n b0 b1 b2 b3).1 = 65533 ∧ (Lib.decodeN n b0 b1 b2 b3).2 ≤ 1)) := by
  unfold Lib.decodeN refN
  by_cases c1 : b0 < 128
  · right
    rw [if_pos c1, if_pos c1]
    exact ⟨rfl, by simp, by simp; omega⟩
  rw [if_neg c1, if_neg c1]
  by_cases c2 : b0 < 192
  · left
    rw [if_pos c2]
    refine ⟨?_, rfl⟩
    rw [if_neg (by omega), if_neg (by omega), if_neg (by omega)]
  rw [if_neg c2]
  by_cases c3 : b0 < 224
  · rw [if_pos c3]
    by_cases k : 1 < n ∧ b1 / 64 = 2
    · rw [if_pos (show b0 / 32 = 6 ∧ (1 < n ∧ b1 / 64 = 2) from ⟨by omega, k⟩)]
      have ev : b0 % 32 * 64 + b1 % 64 = (b0 - 192) * 64 + (b1 - 128) := by omega
      rw [ev]
      by_cases g : 128 ≤ (b0 - 192) * 64 + (b1 - 128)
      · right
        rw [if_pos g, if_pos ⟨by omega, by omega, g⟩]
        exact ⟨rfl, by simp, by simp⟩
      · left
        rw [if_neg g, if_neg (fun h => g h.2.2)]
        exact ⟨rfl, rfl⟩
    · left
      rw [if_neg (by omega), if_neg (by omega), if_neg (by omega), if_neg (by omega)]
      exact ⟨rfl, rfl⟩
  rw [if_neg c3]
  by_cases c4 : b0 < 240
  · rw [if_pos c4, if_neg (by omega)]
    by_cases k : (1 < n ∧ b1 / 64 = 2) ∧ (2 < n ∧ b2 / 64 = 2)
    · rw [if_pos (show b0 / 16 = 14 ∧ (1 < n ∧ b1 / 64 = 2) ∧ (2 < n ∧ b2 / 64 = 2) from ⟨by omega, k⟩)]
      have ev : b0 % 16 * 4096 + b1 % 64 * 64 + b2 % 64 = ((b0 - 224) * 64 + (b1 - 128)) * 64 + (b2 - 128) := by omega
      rw [ev]
      obtain ⟨v, hv⟩ : ∃ v, ((b0 - 224) * 64 + (b1 - 128)) * 64 + (b2 - 128) = v := ⟨_, rfl⟩
      have hvb : v ≤ 65535 := by omega
      rw [hv]
      by_cases g : 2048 ≤ v ∧ ¬ (55296 ≤ v ∧ v ≤ 57343)
      · right
        rw [if_pos (⟨by omega, by omega, by omega, g⟩ : 3 ≤ n ∧ (128 ≤ b1 ∧ b1 ≤ 191) ∧ (128 ≤ b2 ∧ b2 ≤ 191) ∧ 2048 ≤ v ∧ ¬ (55296 ≤ v ∧ v ≤ 57343)), if_pos (by omega)]
        exact ⟨rfl, by simp, by simp⟩
      · left
        rw [if_neg (by omega), if_neg (fun h => g h.2.2.2)]
        exact ⟨rfl, rfl⟩
    · left
      rw [if_neg (by omega), if_neg (by omega), if_neg (by omega)]
      exact ⟨rfl, rfl⟩
  rw [if_neg c4, if_neg (by omega), if_neg (by omega)]
  by_cases k : (1 < n ∧ b1 / 64 = 2) ∧ (2 < n ∧ b2 / 64 = 2) ∧ (3 < n ∧ b3 / 64 = 2)
  · by_cases c5 : b0 < 248
    · rw [if_pos (show b0 / 8 = 30 ∧ (1 < n ∧ b1 / 64 = 2) ∧ (2 < n ∧ b2 / 64 = 2) ∧ (3 < n ∧ b3 / 64 = 2) from ⟨by omega, k⟩)]
      have ev : b0 % 8 * 262144 + b1 % 64 * 4096 + b2 % 64 * 64 + b3 % 64 = (((b0 - 240) * 64 + (b1 - 128)) * 64 + (b2 - 128)) * 64 + (b3 - 128) := by omega
      rw [ev]
      obtain ⟨v, hv⟩ : ∃ v, (((b0 - 240) * 64 + (b1 - 128)) * 64 + (b2 - 128)) * 64 + (b3 - 128) = v := ⟨_, rfl⟩
      rw [hv]
      by_cases g : 65536 ≤ v ∧ v ≤ 1114111
      · right
        rw [if_pos (⟨by omega, by omega, by omega, by omega, g⟩ : 4 ≤ n ∧ (128 ≤ b1 ∧ b1 ≤ 191) ∧ (128 ≤ b2 ∧ b2 ≤ 191) ∧ (128 ≤ b3 ∧ b3 ≤ 191) ∧ 65536 ≤ v ∧ v ≤ 1114111), if_pos (by omega)]
        exact ⟨rfl, by simp, by simp⟩
      · left
        rw [if_neg (by omega), if_neg (fun h => g h.2.2.2.2)]
        exact ⟨rfl, rfl⟩
    · left
      rw [if_neg (by omega), if_neg (by omega)]
      exact ⟨rfl, rfl⟩
  · left
    rw [if_neg (by omega), if_neg (by omega)]
    exact ⟨rfl, rfl⟩
theorem refR_dec (l : List UInt8) (hne : l ≠ []) :
    (Lib.decodeL l = (65533, 1) ∧ refR l = (0, 0)) ∨ (refR l = Lib.decodeL l ∧ 0 < (Lib.decodeL l).2 ∧ ¬ ((Lib.decodeL l).1 = 65533 ∧ (Lib.decodeL l).2 ≤ 1)) := by
  rw [refR_N l hne, Lib.decodeL_N]
  exact refN_dec _ _ _ _ _ (List.length_pos_iff.2 hne) (UInt8.toNat_lt _) (UInt8.toNat_lt _) (UInt8.toNat_lt _) (UInt8.toNat_lt _)
/-- all of it signs: a step -/
theorem valid_bad (l : List UInt8) (hne : l ≠ []) (h : (refR l).2 = 0) : Lib.validD l = false := by
  rw [Lib.validD_step l hne]
  rcases refR_dec l hne with ⟨e, _⟩ | ⟨e, h1, _⟩
  · rw [e]; simp
  · rw [e] at h; omega
theorem valid_good (l : List UInt8) (hne : l ≠ []) (h : ¬ (refR l).2 = 0) : Lib.validD l = Lib.validD (l.drop (refR l).2) := by
  rw [Lib.validD_step l hne]
  rcases refR_dec l hne with ⟨_, e⟩ | ⟨e, h1, h2⟩
  · rw [e] at h; exact absurd rfl h
  · rw [e, if_neg (by omega)]
theorem refR_le (l : List UInt8) : (refR l).2 ≤ l.length := by
  unfold refR
  split
  · simp
  · unfold refT
    split
    · rename_i h; exact h.1
    · simp
end Go.Proofs.YtdmglpnieiiigaaDoor
