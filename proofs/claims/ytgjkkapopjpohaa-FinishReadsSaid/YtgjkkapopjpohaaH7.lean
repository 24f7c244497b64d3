/- What is read is what the page says. -/
import Derived.Test.YtgjkkapopjpohaaH6
namespace Go.Proofs.Ytgjkkapopjpohaa
open Go.RowKit

theorem encF (n s a : Nat) : enc n s a false = cat (cT n s a) := by rw [← encT_cat]; simp [enc]
theorem encTr (n s a : Nat) : enc n s a true = cat (cW n s a) ++ cat (cT 65535 4294967295 4294967295) := by rw [← encT_cat, ← encW_cat]; simp [enc]
theorem okT_nat {x y z : Nat} : okT (x : Nat) (y : Nat) (z : Nat) = true ↔ x ≤ 1000 ∧ y < 4294967295 ∧ z < 4294967295 := by
  unfold okT
  simp
  omega
theorem okT_wrap {N s a : Nat} (hN : N < 18446744073709551616) (hs : s < 18446744073709551616) (ha : a < 18446744073709551616) : okT (IntKind.i64.wrap (N : Int)) (IntKind.i64.wrap (s : Int)) (IntKind.i64.wrap (a : Int)) = true ↔ N ≤ 1000 ∧ s < 4294967295 ∧ a < 4294967295 := by
  unfold okT
  simp only [Bool.and_eq_true, decide_eq_true_eq, IntKind.wrap_i64]
  omega
theorem okT_wideI {N s a : Nat} : okT (wideI N) (wideI s) (wideI a) = true ↔ N ≤ 1000 ∧ s < 4294967295 ∧ a < 4294967295 := by
  constructor
  · intro h
    obtain ⟨_, _, _, b⟩ := okT_wide rfl rfl rfl h
    exact b
  · rintro ⟨h1, h2, h3⟩
    have e1 : wideI N = (N : Int) := by unfold wideI; rw [if_pos (by omega)]
    have e2 : wideI s = (s : Int) := by unfold wideI; rw [if_pos (by omega)]
    have e3 : wideI a = (a : Int) := by unfold wideI; rw [if_pos (by omega)]
    rw [e1, e2, e3]
    exact okT_nat.2 ⟨h1, h2, h3⟩
theorem cT_bd {u x y : Nat} (hu : u < 65536) (hx : x < 4294967296) (hy : y < 4294967296) : ∀ q ∈ cT u x y, q.1 < 256 ^ q.2 := by
  intro q hq
  simp [cT] at hq
  rcases hq with rfl | rfl | rfl | rfl | rfl | rfl <;> simp <;> omega
theorem cW_bd {N s a : Nat} (hN : N ≤ 1000) (hs : s < 4294967295) (ha : a < 4294967295) : ∀ q ∈ cW N s a, q.1 < 256 ^ q.2 := by
  intro q hq
  simp [cW] at hq
  rcases hq with rfl | rfl | rfl | rfl | rfl | rfl | rfl | rfl | rfl | rfl | rfl | rfl <;> simp <;> omega
theorem rl_zero (E : List UInt8) (u : Nat) (l : List (Bool × Int)) (hl : ∀ q ∈ l, q.1 = false → q.2 ≠ 0) : bad (rl E u l) = 0 ↔ (num (E.take 4) = 101010256 ∧ num ((E.drop 4).take 4) = 0 ∧ num ((E.drop 10).take 2) = u ∧ num ((E.drop 20).take 2) = 0) ∧ ∀ q ∈ l, q.1 = true := by
  rw [bad_zero _ (by
    intro q hq
    unfold rl at hq
    rw [List.mem_append] at hq
    rcases hq with hq | hq
    · simp at hq
      rcases hq with rfl | rfl | rfl | rfl <;> simp
    · exact hl q hq)]
  unfold rl
  rw [List.forall_mem_append]
  simp
theorem cT_iff (E : List UInt8) (u x y : Nat) (hE : E.length = 22) (n2 : num ((E.drop 8).take 2) = u) (n4 : num ((E.drop 12).take 4) = x) (n5 : num ((E.drop 16).take 4) = y) :
    (num (E.take 4) = 101010256 ∧ num ((E.drop 4).take 4) = 0 ∧ num ((E.drop 10).take 2) = u ∧ num ((E.drop 20).take 2) = 0) ↔ E = cat (cT u x y) := by
  have hub : u < 65536 := n2 ▸ num_bd E _ 2 _ (by decide)
  have hxb : x < 4294967296 := n4 ▸ num_bd E _ 4 _ (by decide)
  have hyb : y < 4294967296 := n5 ▸ num_bd E _ 4 _ (by decide)
  rw [← catB_iff (cT u x y) E hE (cT_bd hub hxb hyb)]
  simp [catB, cT, List.drop_drop, n2, n4, n5, hE]
theorem slim_iff (E : List UInt8) (u x y : Nat) (hE : E.length = 22) (n2 : num ((E.drop 8).take 2) = u) (n4 : num ((E.drop 12).take 4) = x) (n5 : num ((E.drop 16).take 4) = y) :
    bad (rl E u [(okT (u : Nat) (x : Nat) (y : Nat), 13)]) = 0 ↔ (okT (u : Nat) (x : Nat) (y : Nat) && (E == enc u x y false)) = true := by
  rw [rl_zero _ _ _ (by simp), cT_iff E u x y hE n2 n4 n5, encF, Bool.and_eq_true, beq_iff_eq]
  simp
  exact And.comm
theorem wl_zero (E : List UInt8) (N s a : Nat) (hE : E.length = 76) (n5 : num ((E.drop 24).take 8) = N) (n7 : num ((E.drop 40).take 8) = s) (n8 : num ((E.drop 48).take 8) = a) (hN : N ≤ 1000) (hs : s < 4294967295) (ha : a < 4294967295) :
    bad (wl E N ((a + s) % 18446744073709551616)) = 0 ↔ E = cat (cW N s a) := by
  rw [bad_zero _ (by simp [wl]), ← catB_iff (cW N s a) E hE (cW_bd hN hs ha), Nat.mod_eq_of_lt (by omega)]
  simp [catB, cW, wl, List.drop_drop, n5, n7, n8, hE]
theorem wide_iff (F E W : List UInt8) (u x y N s a : Nat) (hF : F.length = 98) (hE : F.drop 76 = E) (hW : F.take 76 = W) (n2 : num ((E.drop 8).take 2) = u) (n4 : num ((E.drop 12).take 4) = x) (n5 : num ((E.drop 16).take 4) = y) (hu : u = 65535)
    (m1 : num ((W.drop 24).take 8) = N) (m2 : num ((W.drop 40).take 8) = s) (m3 : num ((W.drop 48).take 8) = a) (Kw : Int) (hK : bad (wl W N ((a + s) % 18446744073709551616)) = Kw) :
    bad (rl E u [((x == 4294967295 && y == 4294967295), 39), (Kw == 0, Kw), (okT (IntKind.i64.wrap (N : Int)) (IntKind.i64.wrap (s : Int)) (IntKind.i64.wrap (a : Int)), 13)]) = 0 ↔ (okT (wideI N) (wideI s) (wideI a) && (F == enc N s a true)) = true := by
  have hEl : E.length = 22 := by rw [← hE, List.length_drop, hF]
  have hWl : W.length = 76 := by rw [← hW, List.length_take, hF]; rfl
  have hNb : N < 18446744073709551616 := m1 ▸ num_bd W _ 8 _ (by decide)
  have hsb : s < 18446744073709551616 := m2 ▸ num_bd W _ 8 _ (by decide)
  have hab : a < 18446744073709551616 := m3 ▸ num_bd W _ 8 _ (by decide)
  rw [rl_zero _ _ _ (by simp), cT_iff E u x y hEl n2 n4 n5, encTr, Bool.and_eq_true, beq_iff_eq, okT_wideI]
  simp only [List.forall_mem_cons, List.not_mem_nil, false_implies, implies_true, and_true, Bool.and_eq_true, beq_iff_eq, okT_wrap hNb hsb hab]
  have key : F = cat (cW N s a) ++ cat (cT 65535 4294967295 4294967295) ↔ W = cat (cW N s a) ∧ E = cat (cT 65535 4294967295 4294967295) := by
    have hcl : (cat (cW N s a)).length = 76 := by rw [cat_len]; rfl
    constructor
    · intro h
      rw [← hW, ← hE, h, List.take_left' hcl, List.drop_left' hcl]
      exact ⟨rfl, rfl⟩
    · rintro ⟨h1, h2⟩
      rw [← h1, ← h2, ← hW, ← hE, List.take_append_drop]
  rw [key]
  constructor
  · rintro ⟨h1, ⟨h2, h3⟩, h4, h5⟩
    rw [h4, wl_zero W N s a hWl m1 m2 m3 h5.1 h5.2.1 h5.2.2] at hK
    exact ⟨h5, hK, by rw [h1, hu, h2, h3]⟩
  · rintro ⟨h1, h2, h3⟩
    have hx : x = 4294967295 := by rw [← n4, h3]; exact num_cat [(101010256, 4), (0, 4), (65535, 2), (65535, 2)] [(4294967295, 4), (0, 2)] 4294967295 4 (by decide)
    have hy : y = 4294967295 := by rw [← n5, h3]; exact num_cat [(101010256, 4), (0, 4), (65535, 2), (65535, 2), (4294967295, 4)] [(0, 2)] 4294967295 4 (by decide)
    refine ⟨by rw [h3, hu, hx, hy], ⟨hx, hy⟩, ?_, h1⟩
    rw [← hK]
    exact (wl_zero W N s a hWl m1 m2 m3 h1.1 h1.2.1 h1.2.2).2 h2
end Go.Proofs.Ytgjkkapopjpohaa
