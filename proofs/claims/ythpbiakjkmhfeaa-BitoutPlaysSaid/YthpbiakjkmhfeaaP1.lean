/- The page's lists of bits: Number, Pack, Bits, Align. -/
import Derived.Test.YthpbiakjkmhfeaaB3
import Derived.Test.YthpbiakjkmhfeaaW4
namespace Go.Proofs.Ythpbiakjkmhfeaa
open Go.RowKit

def bnum : List Bool → Nat
  | [] => 0
  | b :: l => b.toNat + 2 * bnum l
theorem bnum_append (a b : List Bool) : bnum (a ++ b) = bnum a + 2 ^ a.length * bnum b := by
  induction a with
  | nil => simp [bnum]
  | cons c a ih =>
    simp only [List.cons_append, bnum, ih, List.length_cons, Nat.pow_succ]
    rw [Nat.mul_add, Nat.add_assoc, Nat.mul_comm (2 ^ a.length) 2, Nat.mul_assoc]
theorem bnum_lt (l : List Bool) : bnum l < 2 ^ l.length := by
  induction l with
  | nil => simp [bnum]
  | cons c l ih =>
    have : c.toNat ≤ 1 := by cases c <;> simp
    simp only [bnum, List.length_cons, Nat.pow_succ]
    omega
theorem bnum_bits (v k : Nat) : bnum (bitsOf v k) = v % 2 ^ k := by
  induction k with
  | zero => simp [bitsOf, bnum, Nat.mod_one]
  | succ k ih =>
    rw [bitsOf_succ, bnum_append, ih, bitsOf_len, Nat.pow_succ, Nat.mod_mul]
    congr 1
    have : v / 2 ^ k % 2 < 2 := Nat.mod_lt _ (by omega)
    by_cases h : v / 2 ^ k % 2 = 1
    · simp [bnum, h]
    · have h0 : v / 2 ^ k % 2 = 0 := by omega
      simp [bnum, h0]
theorem bnum_falses (k : Nat) : bnum (List.replicate k false) = 0 := by
  induction k with
  | zero => rfl
  | succ k ih => simp [List.replicate_succ, bnum, ih]
theorem bnum_drop (l : List Bool) (j : Nat) (h : j < l.length) : bnum (l.drop j) = (l.getD j false).toNat + 2 * bnum (l.drop (j + 1)) := by
  rw [List.drop_eq_getElem_cons h, bnum, List.getD_eq_getElem?_getD, List.getElem?_eq_getElem h]
  rfl
theorem bnum_cut (l : List Bool) (p k : Nat) (h : p ≤ l.length) : bnum ((l.drop p).take k) = bnum l / 2 ^ p % 2 ^ k := by
  have h1 := bnum_append (l.take p) (l.drop p)
  rw [List.take_append_drop, List.length_take, Nat.min_eq_left h] at h1
  have h2 := bnum_lt (l.take p)
  rw [List.length_take, Nat.min_eq_left h] at h2
  rw [h1, Nat.add_mul_div_left _ _ (Nat.pow_pos (by omega)), Nat.div_eq_of_lt h2, Nat.zero_add]
  by_cases hk : k ≤ (l.drop p).length
  · have h3 := bnum_append ((l.drop p).take k) ((l.drop p).drop k)
    rw [List.take_append_drop, List.length_take, Nat.min_eq_left hk] at h3
    have h4 := bnum_lt ((l.drop p).take k)
    rw [List.length_take, Nat.min_eq_left hk] at h4
    rw [h3, Nat.add_mul_mod_self_left, Nat.mod_eq_of_lt h4]
  · rw [List.take_of_length_le (by omega), Nat.mod_eq_of_lt (Nat.lt_of_lt_of_le (bnum_lt _) (Nat.pow_le_pow_right (by omega) (by omega)))]
/-- Lists of bits in memory. -/
def Bo (w : World) (S : Nat → Prop) (A : Option Addr) (n : Nat) (bs : List Bool) : Prop := Lst w S 1 A n (bs.map bo)
theorem Bo.len {w : World} {S : Nat → Prop} {A : Option Addr} {n : Nat} {bs : List Bool} (h : Bo w S A n bs) : bs.length = n := by have := Lst.len h; simpa using this
theorem Bo.at_ {w : World} {S : Nat → Prop} {A : Option Addr} {n : Nat} {bs : List Bool} (h : Bo w S A n bs) {i : Nat} (hi : i < n) : ∃ b off, A = some ⟨b, off, none⟩ ∧ b < w.heap.size ∧ S b ∧ w.cell? ⟨b, off + i, none⟩ = some (.bool (bs.getD i false)) := by
  obtain ⟨b, off, e, hl, hb, hc⟩ := h.2 (by omega)
  have hn := h.len
  refine ⟨b, off, e, hl, hb, hc i _ ?_⟩
  rw [List.getElem?_map, List.getElem?_eq_getElem (by omega), List.getD_eq_getElem?_getD, List.getElem?_eq_getElem (by omega)]
  rfl
theorem number_any (A : Option Addr) (n c : Nat) (bs : List Bool) (S : Nat → Prop) (w : World) (hA : Bo w S A n bs) (hn : n ≤ 32) :
    Calls Try.prog 25 #[.slice A n c] w fun e w' => e = .returned (.int .u64 (bnum bs : Nat)) ∧ w = w' := by
  have HA := Lib.hid hA
  have HL := Lib.hid hA.len
  clear hA
  go_enter Try.func25, Try.ntmps25
  go_wp2
  go_loopw [3, 4] (fun v i wr => ∃ (k y : Nat), k ≤ n ∧ i = .int .i64 ((k : Int) - 1) ∧ v = .int .u64 (y : Nat) ∧ Hid (bnum (bs.drop k) = y) ∧ wr = w) (fun _ i _ => ((intOf i) + 1).toNat)
  case atStart => exact ⟨n, 0, Nat.le_refl _, rfl, rfl, Lib.hid (by rw [List.drop_eq_nil_of_le (by rw [HL.out]; exact Nat.le_refl _)]; rfl), rfl⟩
  case round =>
    obtain ⟨k, y, hk, rfl, rfl, hy, rfl⟩ := hrel
    cases k with
    | zero =>
      have e1 : decide ((0 : Int) ≤ ((0 : Nat) : Int) - 1) = false := by simp
      have e2 : decide ((0 : Int) ≤ -1) = false := by simp
      have hf : bnum bs = y := by have := hy.out; rwa [List.drop_zero] at this
      have HF := Lib.hid hf
      clear hf
      go_wp2
      go_ret
      rw [HF.out]
      exact ⟨rfl, rfl⟩
    | succ k =>
      have e0 : ((k + 1 : Nat) : Int) - 1 = (k : Nat) := by omega
      rw [e0]
      have e1 : decide ((0 : Int) ≤ (k : Int)) = true := by simp
      obtain ⟨b, off, rfl, _, _, hc⟩ := HA.out.at_ (show k < n by omega)
      have HD := Lib.hid (bnum_drop bs k (by rw [HL.out]; omega))
      obtain ⟨q, hq⟩ : ∃ q, bs.getD k false = q := ⟨_, rfl⟩
      rw [hq] at hc
      have HQ := Lib.hid hq
      have hyb : y < 4294967296 := by
        rw [← hy.out]
        exact Nat.lt_of_lt_of_le (bnum_lt _) (show 2 ^ (bs.drop (k + 1)).length ≤ 2 ^ 32 from Nat.pow_le_pow_right (by omega) (by rw [List.length_drop, HL.out]; omega))
      clear hq e0
      cases q with
      | true =>
        go_wp2
        exact ⟨⟨k, y * 2 + 1, by omega, by go_num, by go_num, Lib.hid (by rw [HD.out, HQ.out, hy.out]; simp <;> omega), trivial⟩, by simp [intOf] <;> omega⟩
      | false =>
        go_wp2
        exact ⟨⟨k, y * 2, by omega, by go_num, by go_num, Lib.hid (by rw [HD.out, HQ.out, hy.out]; simp <;> omega), trivial⟩, by simp [intOf] <;> omega⟩
end Go.Proofs.Ythpbiakjkmhfeaa
