/- The page's own answer. -/
import Derived.Test.YtmmckhkiclifjaaW7
import Derived.BigQuiet
namespace Go.Proofs.Ytmmckhkiclifjaa
open Go.RowKit

theorem Below.drewN' (w : World) (k : Nat) : Below w.heap.size w (w.drewN k) := ⟨rfl, rfl, rfl, Nat.le_refl _, fun _ _ => rfl⟩
def PostRun (w : World) (p : Int × Int) (e : Ending) (w' : World) : Prop := e = .returned (.tuple #[.int .i64 p.1, .int .i64 p.2]) ∧ Below w.heap.size w w'
theorem refL_at0 {p : Int × Int} (r : List (Int × Int)) (n : Int) (d : Nat) (h : p.1 = 0) : refL (p :: r) n d = refL r (n + 1) d := by rw [refL, if_pos h]
theorem refL_at1 {p : Int × Int} (r : List (Int × Int)) (n : Int) (h : p.1 = 1) : refL (p :: r) n 0 = (n, p.2) := by rw [refL, if_neg (by omega), if_pos h, if_pos rfl]
theorem refL_at1' {p : Int × Int} (r : List (Int × Int)) (n : Int) (d : Nat) (h : p.1 = 1) (hd : d ≠ 0) : refL (p :: r) n d = refL (r.drop (endL r 0 + 1)) (n + 1000) (d - 1) := by rw [refL, if_neg (by omega), if_pos h, if_neg hd]
theorem refL_at3 {p : Int × Int} (r : List (Int × Int)) (n : Int) (d : Nat) (h : p.1 = 3) : refL (p :: r) n d = refL r n (d + 1) := by rw [refL, if_neg (by omega), if_neg (by omega), if_pos h]
theorem refL_at4 {p : Int × Int} (r : List (Int × Int)) (n : Int) (d : Nat) (h : p.1 = 4) : refL (p :: r) n d = refL r n (d - 1) := by rw [refL, if_neg (by omega), if_neg (by omega), if_neg (by omega), if_pos h]
theorem refL_at {p : Int × Int} (r : List (Int × Int)) (n : Int) (d : Nat) (h0 : ¬ p.1 = 0) (h1 : ¬ p.1 = 1) (h3 : ¬ p.1 = 3) (h4 : ¬ p.1 = 4) : refL (p :: r) n d = refL r n d := by rw [refL, if_neg h0, if_neg h1, if_neg h3, if_neg h4]
set_option maxHeartbeats 1000000 in
theorem ref_any (A : Option Addr) (n c : Nat) (l : List (Int × Int)) (w : World) (S : Nat → Prop) (hL : Ps w S A n l) (hn : n ≤ 1000) :
    Calls Try.prog 9 #[.slice A n c] w (PostRun w (refL l 0 0)) := by
  have HL := Lib.hid hL
  clear hL
  go_enter Try.func9, Try.ntmps9
  go_wp2
  go_loopw [4, 5, 6] (fun m d i wr => ∃ (x : Int) (k j : Nat), k ≤ j ∧ j ≤ n + 1 ∧ 0 ≤ x ∧ x ≤ 1000 * j ∧ m = .int .i64 x ∧ d = .int .i64 k ∧ i = .int .i64 j ∧ Hid (refL l 0 0 = refL (l.drop j) x k) ∧ wr = w) (fun _ _ i _ => n + 1 - (intOf i).toNat)
  case atStart => exact ⟨0, 0, 0, Nat.le_refl _, by omega, by omega, by omega, rfl, rfl, rfl, rfl, rfl⟩
  case round =>
    obtain ⟨x, k, j, hk, hj, hx0, hx1, rfl, rfl, rfl, hE, rfl⟩ := hrel
    by_cases hlt : j < n
    · obtain ⟨b, off, hA, hb, hS, hc0, hc1⟩ := HL.out.at_ hlt
      have hE' := hE.out
      rw [drop_at (j := j) (by rw [HL.out.len]; exact hlt)] at hE'
      generalize l.getD j (0, 0) = p at hc0 hc1 hE'
      have hend := end_any A n c l (j + 1) wr S HL.out (by omega) hn
      rw [show ((j + 1 : Nat) : Int) = (j : Int) + 1 by omega] at hend
      have HEnd := Lib.hid hend
      clear hend
      have hel := endL_le (l.drop (j + 1)) 0
      rw [List.length_drop, HL.out.len] at hel
      subst hA
      by_cases h0 : p.1 = 0
      · rw [refL_at0 _ _ _ h0] at hE'
        have HE := Lib.hid hE'
        rw [h0] at hc0
        clear hE hE' hc1 h0 HEnd hel
        go_wp2
        exact ⟨⟨x + 1, k, j + 1, by omega, by omega, by omega, by omega, rfl, rfl, by go_num, HE, trivial⟩, by simp [intOf]; omega⟩
      by_cases h1 : p.1 = 1
      · rw [h1] at hc0
        by_cases hk0 : k = 0
        · subst hk0
          rw [refL_at1 _ _ h1] at hE'
          have HE := Lib.hid hE'
          clear hE hE' HEnd hel h0 h1
          go_wp2_with fail
          go_quiet (fail)
          go_wp2
          simp [bodyPost, results, Try.results9, go_sem]
          exact ⟨by rw [HE.out], Below.drewN' _ _⟩
        · rw [refL_at1' _ _ _ h1 hk0] at hE'
          rw [List.drop_drop] at hE'
          have HE := Lib.hid hE'
          generalize endL (l.drop (j + 1)) 0 = q at HE hel HEnd
          have ek : ((k : Int) == 0) = false := by simpa using hk0
          clear hE hE' h0 h1 hc1
          go_wp2_with fail
          refine HEnd.out.mono ?_
          rintro e w1 ⟨rfl, rfl⟩
          go_wp2
          exact ⟨⟨x + 1000, k - 1, j + 1 + q + 1, by omega, by omega, by omega, by omega, rfl, by go_num, by go_num, by rw [show j + 1 + q + 1 = j + 1 + (q + 1) by omega]; exact HE, trivial⟩, by simp [intOf]; omega⟩
      by_cases h3 : p.1 = 3
      · rw [refL_at3 _ _ _ h3] at hE'
        have HE := Lib.hid hE'
        rw [h3] at hc0
        clear hE hE' hc1 h0 h1 h3 HEnd hel
        go_wp2
        exact ⟨⟨x, k + 1, j + 1, by omega, by omega, by omega, by omega, rfl, by go_num, by go_num, HE, trivial⟩, by simp [intOf]; omega⟩
      by_cases h4 : p.1 = 4
      · rw [refL_at4 _ _ _ h4] at hE'
        have HE := Lib.hid hE'
        rw [h4] at hc0
        clear hE hE' hc1 h0 h1 h3 h4 HEnd hel
        go_wp2
        exact ⟨⟨x, k - 1, j + 1, by omega, by omega, by omega, by omega, rfl, by congr 1; split <;> omega, by go_num, HE, trivial⟩, by simp [intOf]; omega⟩
      · rw [refL_at _ _ _ h0 h1 h3 h4] at hE'
        have HE := Lib.hid hE'
        have e0 : (p.1 == 0) = false := by simpa using h0
        have e1 : (p.1 == 1) = false := by simpa using h1
        have e3 : (p.1 == 3) = false := by simpa using h3
        have e4 : (p.1 == 4) = false := by simpa using h4
        clear hE hE' hc1 h0 h1 h3 h4 HEnd hel
        go_wp2
        exact ⟨⟨x, k, j + 1, by omega, by omega, by omega, by omega, rfl, rfl, by go_num, HE, trivial⟩, by simp [intOf]; omega⟩
    · have hE' := hE.out
      rw [List.drop_eq_nil_of_le (i := j) (by rw [HL.out.len]; omega), refL_nil] at hE'
      have HE := Lib.hid hE'
      clear hE hE'
      go_wp2
      simp [bodyPost, results, Try.results9, go_sem]
      exact ⟨by rw [HE.out], Below.refl _ _⟩
end Go.Proofs.Ytmmckhkiclifjaa
