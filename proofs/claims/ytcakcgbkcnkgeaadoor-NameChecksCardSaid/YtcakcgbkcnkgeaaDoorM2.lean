/- The order of texts. -/
import Derived.Test.YtcakcgbkcnkgeaaDoorC3
namespace Go.Proofs.YtcakcgbkcnkgeaaDoor
open Go.RowKit

theorem bl_nil (x : List UInt8) : Op.bytesLess x [] = false := by cases x <;> rfl
theorem bl_cons (a b : UInt8) (x y : List UInt8) : Op.bytesLess (a :: x) (b :: y) = true ↔ a.toNat < b.toNat ∨ (a = b ∧ Op.bytesLess x y = true) := by
  rw [Op.bytesLess]
  simp only [Bool.or_eq_true, decide_eq_true_eq, Bool.and_eq_true, beq_iff_eq]
  rfl
theorem bl_asymm : ∀ x y : List UInt8, Op.bytesLess x y = true → Op.bytesLess y x = true → False
  | x, [], h, _ => by rw [bl_nil] at h; cases h
  | [], _ :: _, _, h => by rw [bl_nil] at h; cases h
  | a :: x, b :: y, h1, h2 => by
    rw [bl_cons] at h1 h2
    rcases h1 with h1 | ⟨e1, h1⟩
    · rcases h2 with h2 | ⟨e2, _⟩
      · omega
      · subst e2; omega
    · rcases h2 with h2 | ⟨_, h2⟩
      · subst e1; omega
      · exact bl_asymm x y h1 h2
theorem bl_total : ∀ x y : List UInt8, Op.bytesLess x y = true ∨ x = y ∨ Op.bytesLess y x = true
  | [], [] => .inr (.inl rfl)
  | [], _ :: _ => .inl rfl
  | _ :: _, [] => .inr (.inr rfl)
  | a :: x, b :: y => by
    rw [bl_cons, bl_cons]
    rcases Nat.lt_trichotomy a.toNat b.toNat with h | h | h
    · exact .inl (.inl h)
    · have e := UInt8.toNat_inj.1 h
      subst e
      rcases bl_total x y with h | h | h
      · exact .inl (.inr ⟨rfl, h⟩)
      · exact .inr (.inl (by rw [h]))
      · exact .inr (.inr (.inr ⟨rfl, h⟩))
    · exact .inr (.inr (.inl h))
theorem bl_trans : ∀ x y z : List UInt8, Op.bytesLess x y = true → Op.bytesLess y z = true → Op.bytesLess x z = true
  | _, _, [], _, h => by rw [bl_nil] at h; cases h
  | x, [], _ :: _, h, _ => by rw [bl_nil] at h; cases h
  | [], _ :: _, _ :: _, _, _ => rfl
  | a :: x, b :: y, c :: z, h1, h2 => by
    rw [bl_cons] at h1 h2 ⊢
    rcases h1 with h1 | ⟨e1, h1⟩
    · rcases h2 with h2 | ⟨e2, _⟩
      · left; omega
      · subst e2; exact .inl h1
    · subst e1
      rcases h2 with h2 | ⟨e2, h2⟩
      · exact .inl h2
      · exact .inr ⟨e2, bl_trans x y z h1 h2⟩
theorem tl_eq {p q : ByteArray} : p.toList = q.toList ↔ p = q := by
  rw [Lib.toList_data, Lib.toList_data]
  exact ⟨fun h => ByteArray.ext (Array.toList_inj.1 h), fun h => by rw [h]⟩
theorem cmpS_cases (p q : ByteArray) : (cmpS p q = -1 ∧ Op.bytesLess p.toList q.toList = true) ∨ (cmpS p q = 0 ∧ p = q) ∨ (cmpS p q = 1 ∧ Op.bytesLess q.toList p.toList = true) := by
  rcases bl_total p.toList q.toList with h | h | h
  · exact .inl ⟨cmpS_lt h, h⟩
  · exact .inr (.inl ⟨cmpS_zero h, tl_eq.1 h⟩)
  · right; right
    have h1 : Op.bytesLess p.toList q.toList = false := by
      cases hh : Op.bytesLess p.toList q.toList with
      | true => exact absurd h (fun h => bl_asymm _ _ hh h)
      | false => rfl
    refine ⟨cmpS_gt h1 fun e => ?_, h⟩
    rw [e, less_self] at h; cases h
theorem cmpS_flip (p q : ByteArray) : cmpS q p = - cmpS p q := by
  rcases cmpS_cases p q with ⟨e, h⟩ | ⟨e, h⟩ | ⟨e, h⟩
  · rcases cmpS_cases q p with ⟨e', h'⟩ | ⟨e', h'⟩ | ⟨e', h'⟩
    · exact (bl_asymm _ _ h h').elim
    · subst h'; rw [less_self] at h; cases h
    · rw [e, e']; rfl
  · subst h; rw [e]; rfl
  · rcases cmpS_cases q p with ⟨e', h'⟩ | ⟨e', h'⟩ | ⟨e', h'⟩
    · rw [e, e']
    · subst h'; rw [less_self] at h; cases h
    · exact (bl_asymm _ _ h h').elim
theorem cmpP_cons (p q : ByteArray) (a b : List ByteArray) : cmpP (p :: a) (q :: b) = if cmpS p q = 0 then cmpP a b else cmpS p q := rfl
theorem cmpP_flip : ∀ a b : List ByteArray, cmpP b a = - cmpP a b
  | [], [] => rfl
  | [], _ :: _ => rfl
  | _ :: _, [] => rfl
  | p :: a, q :: b => by
    rw [cmpP_cons, cmpP_cons, cmpS_flip p q, cmpP_flip a b]
    by_cases h : cmpS p q = 0
    · rw [if_pos h, if_pos (by omega)]
    · rw [if_neg h, if_neg (by omega)]
theorem cmpP_zero : ∀ a b : List ByteArray, cmpP a b = 0 → a = b
  | [], [], _ => rfl
  | [], _ :: _, h => by cases h
  | _ :: _, [], h => by cases h
  | p :: a, q :: b, h => by
    rw [cmpP_cons] at h
    by_cases h0 : cmpS p q = 0
    · rw [if_pos h0] at h
      rcases cmpS_cases p q with ⟨e, _⟩ | ⟨_, e⟩ | ⟨e, _⟩
      · omega
      · rw [e, cmpP_zero a b h]
      · omega
    · rw [if_neg h0] at h; exact absurd h h0
theorem cmpP_self : ∀ a : List ByteArray, cmpP a a = 0
  | [] => rfl
  | p :: a => by rw [cmpP_cons, cmpS_zero rfl, if_pos rfl, cmpP_self a]
theorem cmpP_trans : ∀ a b c : List ByteArray, cmpP a b < 0 → cmpP b c < 0 → cmpP a c < 0
  | _, [], [], _, h => absurd h (by show ¬ (0 : Int) < 0; decide)
  | [], [], _ :: _, h, _ => absurd h (by show ¬ (0 : Int) < 0; decide)
  | _ :: _, [], _ :: _, h, _ => absurd h (by show ¬ (1 : Int) < 0; decide)
  | _, _ :: _, [], _, h => absurd h (by show ¬ (1 : Int) < 0; decide)
  | [], _ :: _, _ :: _, _, _ => by show (-1 : Int) < 0; decide
  | p :: a, q :: b, r :: c, h1, h2 => by
    rw [cmpP_cons] at h1 h2 ⊢
    rcases cmpS_cases p q with ⟨e, h⟩ | ⟨e, h⟩ | ⟨e, h⟩
    · rcases cmpS_cases q r with ⟨e', h'⟩ | ⟨e', h'⟩ | ⟨e', h'⟩
      · rw [cmpS_lt (bl_trans _ _ _ h h'), if_neg (by decide)]; decide
      · subst h'; rw [e, if_neg (by decide)]; decide
      · rw [e', if_neg (by decide)] at h2; exact absurd h2 (by decide)
    · subst h
      rcases cmpS_cases p r with ⟨e', h'⟩ | ⟨e', h'⟩ | ⟨e', h'⟩
      · rw [e', if_neg (by decide)]; decide
      · rw [e', if_pos rfl] at h2 ⊢
        rw [e, if_pos rfl] at h1
        exact cmpP_trans a b c h1 h2
      · rw [e', if_neg (by decide)] at h2; exact absurd h2 (by decide)
    · rw [e, if_neg (by decide)] at h1; exact absurd h1 (by decide)
theorem lessB_asymm (a b : ByteArray) : (lessB a b && lessB b a) = false := by
  unfold lessB
  rw [cmpP_flip (parts a) (parts b)]
  by_cases h : cmpP (parts a) (parts b) < 0
  · rw [decide_eq_true h, decide_eq_false (by omega)]; rfl
  · rw [decide_eq_false h]; rfl
theorem lessB_total (a b : ByteArray) : (lessB a b || lessB b a) = !(a.toList == b.toList) := by
  unfold lessB
  rw [cmpP_flip (parts a) (parts b)]
  by_cases h : cmpP (parts a) (parts b) = 0
  · have e := parts_inj (cmpP_zero _ _ h)
    subst e
    rw [h]; simp
  · have e : ¬ a.toList = b.toList := fun e => h (by rw [tl_eq.1 e, cmpP_self])
    have e2 : (a.toList == b.toList) = false := by simpa using e
    rw [e2]
    by_cases h1 : cmpP (parts a) (parts b) < 0
    · rw [decide_eq_true h1]; rfl
    · rw [decide_eq_false h1, decide_eq_true (by omega)]; rfl
theorem lessB_trans (a b c : ByteArray) (h1 : lessB a b = true) (h2 : lessB b c = true) : lessB a c = true := by
  unfold lessB at *
  exact decide_eq_true (cmpP_trans _ _ _ (of_decide_eq_true h1) (of_decide_eq_true h2))
end Go.Proofs.YtcakcgbkcnkgeaaDoor
