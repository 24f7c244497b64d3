/- What is read is what the page says. -/
import Derived.Test.YtafdflpjfdeohaaE7
namespace Go.Proofs.Ytafdflpjfdeohaa
open Go.RowKit

def catB : List (Nat × Nat) → List UInt8 → Bool
  | [], E => E.isEmpty
  | (v, k) :: l, E => (num (E.take k) == v) && catB l (E.drop k)
theorem catB_iff (l : List (Nat × Nat)) (E : List UInt8) (hE : E.length = csz l) (hv : ∀ q ∈ l, q.1 < 256 ^ q.2) : catB l E = true ↔ E = cat l := by
  induction l generalizing E with
  | nil =>
    have : E = [] := List.length_eq_zero_iff.1 hE
    subst this
    simp [catB, cat]
  | cons q l ih =>
    obtain ⟨v, k⟩ := q
    have hk : csz ((v, k) :: l) = k + csz l := rfl
    rw [hk] at hE
    have hc : cat ((v, k) :: l) = leB v k ++ cat l := rfl
    have ht : (E.take k).length = k := by rw [List.length_take]; omega
    have ih' := ih (E.drop k) (by rw [List.length_drop]; omega) (fun q hq => hv q (List.mem_cons_of_mem _ hq))
    rw [hc, catB, Bool.and_eq_true, ih', beq_iff_eq]
    constructor
    · rintro ⟨h1, h2⟩
      have h3 := leB_num (E.take k)
      rw [ht, h1] at h3
      rw [h3, ← h2, List.take_append_drop]
    · intro h
      have h1 := hv (v, k) List.mem_cons_self
      rw [h, List.take_left' (leB_len v k), List.drop_left' (leB_len v k), num_leB]
      exact ⟨Nat.mod_eq_of_lt h1, rfl⟩
theorem bad_zero (l : List (Bool × Int)) (h : ∀ q ∈ l, q.1 = false → q.2 ≠ 0) : bad l = 0 ↔ ∀ q ∈ l, q.1 = true := by
  induction l with
  | nil => simp [bad]
  | cons q l ih =>
    obtain ⟨b, c⟩ := q
    have ih' := ih (fun q hq => h q (List.mem_cons_of_mem _ hq))
    cases b
    · have := h (false, c) List.mem_cons_self rfl
      simp [bad]
      exact this
    · simp [bad, ih']
theorem okD_wrap {p s : Nat} (hp : p < 18446744073709551616) (hs : s < 18446744073709551616) : okD (IntKind.i64.wrap (p : Int)) (IntKind.i64.wrap (s : Int)) = true ↔ p ≤ 33554432 ∧ s ≤ 16777216 := by
  unfold okD
  simp only [Bool.and_eq_true, decide_eq_true_eq, IntKind.wrap_i64]
  omega
theorem wid_pos (wd : Bool) : (wid wd = 4 ∨ wid wd = 8) := by cases wd <;> simp [wid]
theorem num_bw (E : List UInt8) (p : Nat) (wd : Bool) : num ((E.drop p).take (wid wd)) < 18446744073709551616 := by
  cases wd
  · exact Nat.lt_of_lt_of_le (num_bd E p 4 _ rfl) (by decide)
  · exact num_bd E p 8 _ rfl
theorem dl_zero (bs : List UInt8) (n : Nat) (wd : Bool) (ip is : Int) : bad (dl bs n wd ip is) = 0 ↔ (8 + 2 * wid wd ≤ n ∧ num (bs.take 4) = 134695760 ∧ okD ip is = true) := by
  rw [bad_zero _ (by simp [dl])]
  rcases wid_pos wd with h | h <;> simp [dl, h] <;> constructor
  all_goals first
    | (rintro ⟨_, b, _, _, e, f⟩; exact ⟨e, b, f⟩)
    | (rintro ⟨e, b, f⟩; exact ⟨by omega, b, by omega, by omega, e, f⟩)
theorem encD_iff (X : List UInt8) (c p s : Nat) (wd : Bool) (hX : X.length = 8 + 2 * wid wd) (n1 : num ((X.drop 4).take 4) = c) (n2 : num ((X.drop 8).take (wid wd)) = p) (n3 : num ((X.drop (8 + wid wd)).take (wid wd)) = s) :
    encD c p s wd = X ↔ num (X.take 4) = 134695760 := by
  have hc : c < 4294967296 := n1 ▸ num_bd X _ 4 _ (by decide)
  rw [encD_cat]
  have h := catB_iff [(134695760, 4), (c, 4), (p, wid wd), (s, wid wd)] X (by rw [hX]; simp [csz]; omega) (by
    intro q hq
    simp at hq
    rcases hq with rfl | rfl | rfl | rfl
    · decide
    · simpa using hc
    · have := num_bd X 8 (wid wd) _ rfl
      rw [n2] at this
      exact this
    · have := num_bd X (8 + wid wd) (wid wd) _ rfl
      rw [n3] at this
      exact this)
  rw [eq_comm, ← h]
  have hr := hX
  cases wd <;> simp [wid] at n2 n3 hr <;> simp [catB, wid, List.drop_drop, n1, n2, n3, hr]
theorem readq (wd : Bool) (g : Nat) (A : Option Addr) (n cap : Nat) (bs : List UInt8) (c p s : Nat) (K : Int) (w : World) (hR : Rdr w g A n cap bs 0) (hn : n ≤ 1000) (hnc : n ≤ cap) (hcc : cap ≤ 9223372036854775807)
    (n1 : num ((bs.drop 4).take 4) = c) (n2 : num ((bs.drop 8).take (wid wd)) = p) (n3 : num ((bs.drop (8 + wid wd)).take (wid wd)) = s) (hK : bad (dl bs n wd (IntKind.i64.wrap (p : Int)) (IntKind.i64.wrap (s : Int))) = K) :
    Calls Try.prog 15 #[.pointer (some ⟨g, 0, none⟩), .bool wd] w (RdQ w g A n cap (8 + 2 * wid wd) K (tl c (IntKind.i64.wrap (p : Int)) (IntKind.i64.wrap (s : Int)) wd)) := by
  cases wd
  · exact readq_slim g A n cap bs c p s _ _ K w hR hn hnc hcc n1 n2 n3 rfl rfl hK
  · exact readq_wide g A n cap bs c p s _ _ K w hR hn hnc hcc n1 n2 n3 rfl rfl hK
theorem readq_thr {wd : Bool} {g : Nat} {A : Option Addr} {n cap L : Nat} {K : Int} {v : Value} {w : World} (h : Calls Try.prog 15 #[.pointer (some ⟨g, 0, none⟩), .bool wd] w (RdQ w g A n cap L K v)) (hK : (K == 0) = false) :
    Calls Try.prog 15 #[.pointer (some ⟨g, 0, none⟩), .bool wd] w fun e w' => e = .panicked [{ v := fault K, recovered := false }] ∧ Alone w w' g := by
  refine h.mono ?_
  rintro e w' ⟨rfl, ha, -⟩
  exact ⟨by rw [if_neg (by simpa using hK)], ha⟩
theorem readq_ret {wd : Bool} {g : Nat} {A : Option Addr} {n cap L : Nat} {K : Int} {v : Value} {w : World} (h : Calls Try.prog 15 #[.pointer (some ⟨g, 0, none⟩), .bool wd] w (RdQ w g A n cap L K v)) (hK : K = 0) :
    Calls Try.prog 15 #[.pointer (some ⟨g, 0, none⟩), .bool wd] w fun e w' => e = .returned v ∧ Moved w g A n cap L w' := by
  refine h.mono ?_
  rintro e w' ⟨rfl, ha, hw⟩
  exact ⟨by rw [if_pos hK], ha, hw hK⟩
theorem rpar (A : Option Addr) (m cA : Nat) (bs : List UInt8) (S : Nat → Prop) (c p s : Nat) (wd : Bool) (w : World) (hB : Bs w S A m bs) (hm : m ≤ 1000) (hL : 8 + 2 * wid wd ≤ m) (hmc : m ≤ cA) (n1 : num ((bs.drop 4).take 4) = c) (n2 : num ((bs.drop 8).take (wid wd)) = p) (n3 : num ((bs.drop (8 + wid wd)).take (wid wd)) = s)
    (q : Bool) (hq : (decide (p ≤ 33554432) && (decide (s ≤ 16777216) && (encD c p s wd == bs.take (8 + 2 * wid wd)))) = q) :
    Calls Try.prog 11 #[.slice A m cA, .bool wd] w (QP w q c p s) := by
  by_cases h1 : p ≤ 33554432
  · by_cases h2 : s ≤ 16777216
    · simp only [h1, h2, decide_true, Bool.true_and] at hq
      cases wd
      · exact rpar_slim_ok A m cA bs S c p s w hB hm hL hmc n1 n2 n3 h1 h2 q hq
      · exact rpar_wide_ok A m cA bs S c p s w hB hm hL hmc n1 n2 n3 h1 h2 q hq
    · simp only [h2, decide_false, Bool.false_and, Bool.and_false] at hq
      subst hq
      cases wd
      · exact rpar_slim_s A m cA bs S c p s w hB hm hL hmc n1 n2 n3 h1 (by omega)
      · exact rpar_wide_s A m cA bs S c p s w hB hm hL hmc n1 n2 n3 h1 (by omega)
  · simp only [h1, decide_false, Bool.false_and] at hq
    subst hq
    cases wd
    · exact rpar_slim_p A m cA bs S c p s w hB hm hL hmc n1 n2 n3 (by omega)
    · exact rpar_wide_p A m cA bs S c p s w hB hm hL hmc n1 n2 n3 (by omega)
end Go.Proofs.Ytafdflpjfdeohaa
