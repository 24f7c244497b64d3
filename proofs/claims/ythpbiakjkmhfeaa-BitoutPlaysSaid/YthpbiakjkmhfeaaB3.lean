/- BitoutBack: what was put is read. -/
import Derived.Test.YthpbiakjkmhfeaaNv
namespace Go.Proofs.Ythpbiakjkmhfeaa
open Go.RowKit

def okN (n : Int) : Prop := 0 ≤ n ∧ n ≤ 32
instance (n : Int) : Decidable (okN n) := by unfold okN; infer_instance
def enc : List (Int × Nat) → Nat
  | [] => 0
  | p :: l => if okN p.1 then p.2 % 2 ^ p.1.toNat + 2 ^ p.1.toNat * enc l else enc l
def blen : List (Int × Nat) → Nat
  | [] => 0
  | p :: l => if okN p.1 then p.1.toNat + blen l else blen l
theorem blen_append (a b : List (Int × Nat)) : blen (a ++ b) = blen a + blen b := by
  induction a with
  | nil => simp [blen]
  | cons p a ih =>
    rw [List.cons_append, blen, blen, ih]
    split <;> omega
theorem enc_append (a b : List (Int × Nat)) : enc (a ++ b) = enc a + enc b * 2 ^ blen a := by
  induction a with
  | nil => simp [enc, blen]
  | cons p a ih =>
    rw [List.cons_append, enc, enc, blen, ih]
    split
    · rw [Nat.pow_add, Nat.mul_add, Nat.add_assoc, Nat.mul_left_comm (enc b)]
    · rfl
theorem blen_le (l : List (Int × Nat)) : blen l ≤ 32 * l.length := by
  induction l with
  | nil => simp [blen]
  | cons p l ih =>
    rw [blen, List.length_cons]
    split
    · rename_i h
      unfold okN at h
      omega
    · omega
theorem take_snoc (l : List (Int × Nat)) (j : Nat) (h : j < l.length) : l.take (j + 1) = l.take j ++ [l.getD j (0, 0)] := by
  rw [List.take_succ_eq_append_getElem h, List.getD_eq_getElem?_getD, List.getElem?_eq_getElem h]
  rfl
theorem drop_head (l : List (Int × Nat)) (j : Nat) (h : j < l.length) : l.drop j = l.getD j (0, 0) :: l.drop (j + 1) := by
  rw [List.drop_eq_getElem_cons h, List.getD_eq_getElem?_getD, List.getElem?_eq_getElem h]
  rfl
/-- A writer whose bits are the N lowest of V. -/
def Ws (w : World) (base g V N : Nat) : Prop := ∃ A c D L, Wr w base g A c D L N ∧ num D + 256 ^ D.length * L = V ∧ D.length = N / 8
theorem num_div (D : List UInt8) (L o x j : Nat) : num (D ++ leB (L + x * 2 ^ o) j) + 256 ^ (D ++ leB (L + x * 2 ^ o) j).length * ((L + x * 2 ^ o) / 256 ^ j) = num D + 256 ^ D.length * L + x * (256 ^ D.length * 2 ^ o) := by
  rw [num_append, num_leB, List.length_append, leB_len, Nat.pow_add, Nat.mul_assoc (256 ^ D.length), Nat.add_assoc, ← Nat.mul_add, Nat.mod_add_div, Nat.mul_add, ← Nat.add_assoc, Nat.mul_left_comm x]
theorem ws_put (base g V N x n : Nat) (w : World) (hW : Ws w base g V N) (hn : n ≤ 32) (hx : x < 4294967296) (hN : N ≤ 100000) (hb : base ≤ g) (hbs : base ≤ w.heap.size) :
    Calls Try.prog 8 #[.pointer (some ⟨g, 0, none⟩), .int .u32 x, .int .i64 (n : Nat)] w fun e w' => e = .returned (.bool true) ∧ Ws w' base g (V + x % 2 ^ n * 2 ^ N) (N + n) ∧ Below base w w' := by
  obtain ⟨A, c, D, L, hW, hV, hl⟩ := hW
  refine (put_any base g A c D L N x n w hW hn hx (by omega) (by omega) hb).mono ?_
  rintro e w1 ⟨rfl, A', c', hW', hC, _⟩
  refine ⟨rfl, ⟨A', c', _, _, hW', ?_, ?_⟩, Chg.below (Below.refl _ _) hC (hW.its hb (Nat.le_refl _)) hbs⟩
  · rw [num_div D L (N % 8) _ _, hV]
    congr 2
    rw [hl, show (256 : Nat) = 2 ^ 8 from rfl, ← Nat.pow_mul, ← Nat.pow_add]
    congr 1
    omega
  · rw [List.length_append, leB_len, hl]
    omega
/-- A reader that has l bits left, of which U is the number. -/
def Rs (w : World) (base g U l : Nat) : Prop := ∃ A c D P G, Rd w base g A c D P G ∧ num D / 2 ^ P = U ∧ 8 * D.length - P = l ∧ D.length ≤ 100000
theorem ws_feed (base g V N : Nat) (w : World) (hW : Ws w base g V N) (hN : N ≤ 100000) (hb : base ≤ g) (hbs : base ≤ w.heap.size) :
    Calls Try.prog 18 #[.pointer (some ⟨g, 0, none⟩)] w fun e w' => ∃ A c D, e = .returned (.slice A D.length c) ∧ num D = V ∧ D.length = (N + 7) / 8 ∧ w'.ownsRow base 5 1 (.slice A D.length c) D.length (D.map bv) ∧ Below base w w' ∧ (∀ k t cs, Whole w k t cs → k ≠ g → t ≠ 5 → Whole w' k t cs) := by
  obtain ⟨A, c, D, L, hW, hV, hl⟩ := hW
  refine (finish_any base g A c D L N w hW (by omega) (by omega) hb).mono ?_
  rintro e w1 ⟨A', c', rfl, hW', hO, hC, _⟩
  refine ⟨A', c', _, rfl, ?_, ?_, hO, Chg.below (Below.refl _ _) hC (hW.its hb (Nat.le_refl _)) hbs, ?_⟩
  · rw [num_append, num_leB, ← hV, Nat.mod_eq_of_lt]
    have h1 := hW.1
    by_cases hz : N % 8 = 0
    · rw [hz] at h1 ⊢
      simpa using h1
    · rw [show (N % 8 + 7) / 8 = 1 by omega]
      have : 2 ^ (N % 8) ≤ 2 ^ 7 := Nat.pow_le_pow_right (by omega) (by omega)
      omega
  · rw [List.length_append, leB_len, hl]
    omega
  · intro k t cs hk hkg ht
    refine hC.whole hk ?_
    rintro (h | h)
    · exact hkg h
    · refine own_ne' ht hk hW.2.2 ?_
      cases A with
      | none => cases h
      | some a => exact h.symm
theorem rs_feed (base g : Nat) (B : Option Addr) (d : Nat) (D : List UInt8) (w : World) (hR : Whole w g 53 #[.slice none 0 0, .int .i64 0, .int .i64 0]) (hO : w.ownsRow base 5 1 (.slice B D.length d) D.length (D.map bv)) (hD : D.length ≤ 100000) (hb : base ≤ g) (hbs : base ≤ w.heap.size) :
    Calls Try.prog 22 #[.pointer (some ⟨g, 0, none⟩), .slice B D.length d] w fun e w' => e = .returned (.tuple #[]) ∧ Rs w' base g (num D) (8 * D.length) ∧ Below base w w' := by
  refine (feed_any base g none 0 [] 0 0 B D.length d D w ⟨by simp, hR, World.ownsRow_nil _ _ _ _⟩ (own_bs hO (own_ne' (by decide) hR hO)) (by simp) (by omega) (by omega) hbs).mono ?_
  rintro e w1 ⟨rfl, A', c', D', P', G', hR', h1, h2, h3, h4, hC, _⟩
  refine ⟨rfl, ⟨A', c', D', P', G', hR', by simpa [num] using h1, by simpa using h2, by simp at h4; omega⟩, Chg.below (Below.refl _ _) hC ?_ hbs⟩
  rintro k hk (h | h)
  · omega
  · cases h
theorem rs_bits (base g U l n : Nat) (w : World) (hR : Rs w base g U l) (hn : n ≤ 32) (hl : n ≤ l) (hb : base ≤ g) (hbs : base ≤ w.heap.size) :
    Calls Try.prog 23 #[.pointer (some ⟨g, 0, none⟩), .int .i64 (n : Nat)] w fun e w' => e = .returned (.tuple #[.int .u32 (U % 2 ^ n : Nat), .bool true]) ∧ Rs w' base g (U / 2 ^ n) (l - n) ∧ Below base w w' := by
  obtain ⟨A, c, D, P, G, hR, h1, h2, h3⟩ := hR
  refine (bits_yes base g A c D P G n w hR (by omega) hn (by omega)).mono ?_
  rintro e w1 ⟨rfl, hR', hC⟩
  rw [h1]
  refine ⟨rfl, ⟨A, c, D, P + n, G, hR', ?_, by omega, h3⟩, Chg.below (Below.refl _ _) hC (fun k hk h => by omega) hbs⟩
  rw [Nat.pow_add, ← Nat.div_div_eq_div_mul, h1]
theorem rs_left (base g U l : Nat) (w : World) (hR : Rs w base g U l) : Calls Try.prog 24 #[.pointer (some ⟨g, 0, none⟩)] w fun e w' => e = .returned (.int .i64 (l : Nat)) ∧ Below base w w' := by
  obtain ⟨A, c, D, P, G, hR, h1, h2, h3⟩ := hR
  refine (left_any base g A c D P G w hR (by omega)).mono ?_
  rintro e w1 ⟨rfl, m, rfl⟩
  rw [h2]
  exact ⟨rfl, (Below.refl _ _).drewN' m⟩
end Go.Proofs.Ythpbiakjkmhfeaa
