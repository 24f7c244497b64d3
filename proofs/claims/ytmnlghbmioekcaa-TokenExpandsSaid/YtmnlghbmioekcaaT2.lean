/- What tokens stand for. -/
import Derived.Test.YtmnlghbmioekcaaT1
namespace Go.Proofs.Ytmnlghbmioekcaa
open Go.RowKit

def okT (t : Tok) : Bool := if t.2.1 = 0 then decide (t.2.2 = 0) else decide (t.1 = 0 ∧ 3 ≤ t.2.1 ∧ t.2.1 ≤ 258 ∧ 1 ≤ t.2.2 ∧ t.2.2 ≤ 32768)
/-- k bytes, each as it was d ago. -/
def rep (xs : List UInt8) (d : Nat) : Nat → List UInt8
  | 0 => xs
  | k + 1 => rep xs d k ++ [(rep xs d k).getD ((rep xs d k).length - d) 0]
theorem rep_len (xs : List UInt8) (d k : Nat) : (rep xs d k).length = xs.length + k := by
  induction k with
  | zero => rfl
  | succ k ih => simp [rep, ih]; omega
theorem rep_pre (xs : List UInt8) (d k : Nat) : ∃ zs, rep xs d k = xs ++ zs := by
  induction k with
  | zero => exact ⟨[], by simp [rep]⟩
  | succ k ih =>
    obtain ⟨zs, h⟩ := ih
    exact ⟨zs ++ [(rep xs d k).getD ((rep xs d k).length - d) 0], by rw [rep, ← List.append_assoc, ← h]⟩
/-- The error's number, and all bytes. -/
def exs : List Tok → List UInt8 → Int × List UInt8
  | [], xs => (0, xs)
  | t :: l, xs => if okT t = false then (1, []) else if t.2.1 = 0 then exs l (xs ++ [UInt8.ofNat t.1]) else if (xs.length : Int) < t.2.2 then (27, []) else exs l (rep xs t.2.2.toNat t.2.1.toNat)
theorem exs_code (l : List Tok) (xs : List UInt8) : (exs l xs).1 = 0 ∨ (exs l xs).1 = 1 ∨ (exs l xs).1 = 27 := by
  induction l generalizing xs with
  | nil => exact .inl rfl
  | cons t l ih =>
    rw [exs]
    split
    · exact .inr (.inl rfl)
    · split
      · exact ih _
      · split
        · exact .inr (.inr rfl)
        · exact ih _
theorem exs_bad (l : List Tok) (xs : List UInt8) (h : (exs l xs).1 ≠ 0) : (exs l xs).2 = [] := by
  induction l generalizing xs with
  | nil => exact absurd rfl h
  | cons t l ih =>
    rw [exs] at h ⊢
    split
    · rfl
    · rename_i h1
      rw [if_neg h1] at h
      split
      · rename_i h2
        rw [if_pos h2] at h
        exact ih _ h
      · rename_i h2
        rw [if_neg h2] at h
        split
        · rfl
        · rename_i h3
          rw [if_neg h3] at h
          exact ih _ h
theorem exs_pre (l : List Tok) (xs : List UInt8) (h : (exs l xs).1 = 0) : ∃ zs, (exs l xs).2 = xs ++ zs ∧ zs.length ≤ 258 * l.length := by
  induction l generalizing xs with
  | nil => exact ⟨[], by simp [exs], by simp⟩
  | cons t l ih =>
    rw [exs] at h ⊢
    split
    · rename_i h1
      rw [if_pos h1] at h
      cases h
    · rename_i h1
      rw [if_neg h1] at h
      split
      · rename_i h2
        rw [if_pos h2] at h
        obtain ⟨zs, e, hz⟩ := ih _ h
        exact ⟨[UInt8.ofNat t.1] ++ zs, by rw [e, List.append_assoc], by simp; omega⟩
      · rename_i h2
        rw [if_neg h2] at h
        split
        · rename_i h3
          rw [if_pos h3] at h
          cases h
        · rename_i h3
          rw [if_neg h3] at h
          obtain ⟨zs, e, hz⟩ := ih _ h
          obtain ⟨us, hu⟩ := rep_pre xs t.2.2.toNat t.2.1.toNat
          have hl := rep_len xs t.2.2.toNat t.2.1.toNat
          rw [hu, List.length_append] at hl
          have hok : okT t = true := by simpa using h1
          unfold okT at hok
          rw [if_neg h2] at hok
          have := of_decide_eq_true hok
          exact ⟨us ++ zs, by rw [e, hu, List.append_assoc], by simp; omega⟩
theorem exs_append (l m : List Tok) (xs : List UInt8) : exs (l ++ m) xs = if (exs l xs).1 = 0 then exs m (exs l xs).2 else exs l xs := by
  induction l generalizing xs with
  | nil => simp [exs]
  | cons t l ih =>
    rw [List.cons_append, exs, exs]
    split
    · simp
    · split
      · exact ih _
      · split
        · simp
        · exact ih _
theorem exs_lits (bs xs : List UInt8) : exs (bs.map fun c => ((c.toNat, 0, 0) : Tok)) xs = (0, xs ++ bs) := by
  induction bs generalizing xs with
  | nil => simp [exs]
  | cons c bs ih =>
    rw [List.map_cons, exs]
    rw [if_neg (by simp [okT]), if_pos rfl, ih]
    simp
theorem right_any (t : Tok) (w : World) : Calls Try.prog 9 #[.agg #[.int .u8 (t.1 : Int), .int .i64 t.2.1, .int .i64 t.2.2]] w fun e w' => e = .returned (.bool (okT t)) ∧ Below w.heap.size w w' := by
  obtain ⟨v, l, d⟩ := t
  simp only
  by_cases h0 : l = 0
  · have e0 : (l == 0) = true := by simpa using h0
    have ho : okT (v, l, d) = (d == 0) := by
      unfold okT
      rw [if_pos h0]
      by_cases hd : d = 0 <;> simp [hd]
    rw [ho]
    go_enter Try.func9, Try.ntmps9
    go_wp2
    go_ret
    exact ⟨rfl, (Below.refl _ _).alloc (Nat.le_refl _) _⟩
  · have e0 : (l == 0) = false := by simpa using h0
    by_cases h1 : v = 0
    · have e1 : ((v : Int) == 0) = true := by simp [h1]
      by_cases h2 : 3 ≤ l
      · have e2 : decide (3 ≤ l) = true := by simpa using h2
        by_cases h3 : l ≤ 258
        · have e3 : decide (l ≤ 258) = true := by simpa using h3
          by_cases h4 : 1 ≤ d
          · have e4 : decide (1 ≤ d) = true := by simpa using h4
            have ho : okT (v, l, d) = decide (d ≤ 32768) := by unfold okT; simp [h0, h1, h2, h3, h4]
            rw [ho]
            go_enter Try.func9, Try.ntmps9
            go_wp2
            go_ret
            exact ⟨rfl, (Below.refl _ _).alloc (Nat.le_refl _) _⟩
          · have e4 : decide (1 ≤ d) = false := by simpa using h4
            rw [show okT (v, l, d) = false by unfold okT; simp [h0, h4]]
            go_enter Try.func9, Try.ntmps9
            go_wp2
            go_ret
            exact ⟨rfl, (Below.refl _ _).alloc (Nat.le_refl _) _⟩
        · have e3 : decide (l ≤ 258) = false := by simpa using h3
          rw [show okT (v, l, d) = false by unfold okT; simp [h0, h3]]
          go_enter Try.func9, Try.ntmps9
          go_wp2
          go_ret
          exact ⟨rfl, (Below.refl _ _).alloc (Nat.le_refl _) _⟩
      · have e2 : decide (3 ≤ l) = false := by simpa using h2
        rw [show okT (v, l, d) = false by unfold okT; simp [h0, h2]]
        go_enter Try.func9, Try.ntmps9
        go_wp2
        go_ret
        exact ⟨rfl, (Below.refl _ _).alloc (Nat.le_refl _) _⟩
    · have e1 : ((v : Int) == 0) = false := by simp; omega
      rw [show okT (v, l, d) = false by unfold okT; simp [h0, h1]]
      go_enter Try.func9, Try.ntmps9
      go_wp2
      go_ret
      exact ⟨rfl, (Below.refl _ _).alloc (Nat.le_refl _) _⟩
theorem few_any (A B : Option Addr) (n m c d : Nat) (w : World) : Calls Try.prog 6 #[.slice A n c, .slice B m d] w fun e w' => e = .returned (.bool (decide (n ≤ 1000) && decide (m ≤ 100))) ∧ w = w' := by
  by_cases h : n ≤ 1000
  · have e1 : decide ((n : Int) ≤ 1000) = true := by simp; omega
    rw [show decide (n ≤ 1000) = true by simpa using h, Bool.true_and, show decide (m ≤ 100) = decide ((m : Int) ≤ 100) from decide_eq_decide.2 (by omega)]
    go_enter Try.func6, Try.ntmps6
    go_wp2
    go_ret
    exact ⟨rfl, rfl⟩
  · have e1 : decide ((n : Int) ≤ 1000) = false := by simp; omega
    rw [show decide (n ≤ 1000) = false by simpa using h, Bool.false_and]
    go_enter Try.func6, Try.ntmps6
    go_wp2
    go_ret
    exact ⟨rfl, rfl⟩
end Go.Proofs.Ytmnlghbmioekcaa
