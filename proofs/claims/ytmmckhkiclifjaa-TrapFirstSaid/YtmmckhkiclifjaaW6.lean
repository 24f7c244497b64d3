/- Where what is caught ends. -/
import Derived.Test.YtmmckhkiclifjaaW3
import Derived.Test.YtmmckhkiclifjaaPair
namespace Go.Proofs.Ytmmckhkiclifjaa
open Go.RowKit

def endL : List (Int × Int) → Nat → Nat
  | [], _ => 0
  | p :: r, d => if p.1 = 3 then 1 + endL r (d + 1) else if p.1 = 4 then (if d = 0 then 0 else 1 + endL r (d - 1)) else 1 + endL r d
theorem endL_le (l : List (Int × Int)) (d : Nat) : endL l d ≤ l.length := by
  induction l generalizing d with
  | nil => simp [endL]
  | cons p r ih =>
    have h1 := ih (d + 1)
    have h2 := ih (d - 1)
    have h3 := ih d
    simp only [endL, List.length_cons]
    split
    · omega
    · split
      · split <;> omega
      · omega
theorem drop_at {l : List (Int × Int)} {j : Nat} (h : j < l.length) : l.drop j = l.getD j (0, 0) :: l.drop (j + 1) := by
  rw [List.drop_eq_getElem_cons h, List.getD_eq_getElem?_getD, List.getElem?_eq_getElem h]
  rfl
def PostEnd (w : World) (n : Nat) (e : Ending) (w' : World) : Prop := e = .returned (.int .i64 n) ∧ w = w'
theorem end_any (A : Option Addr) (n c : Nat) (l : List (Int × Int)) (fr : Nat) (w : World) (S : Nat → Prop) (hL : Ps w S A n l) (hf : fr ≤ n) (hn : n ≤ 1000) :
    Calls Try.prog 29 #[.slice A n c, .int .i64 fr] w (PostEnd w (fr + endL (l.drop fr) 0)) := by
  have HL := Lib.hid hL
  clear hL
  go_enter Try.func29, Try.ntmps29
  go_wp2
  go_loopw [5, 6] (fun d i wr => ∃ (k j : Nat), k + fr ≤ j ∧ j ≤ n ∧ fr ≤ j ∧ d = .int .i64 k ∧ i = .int .i64 j ∧ Hid (fr + endL (l.drop fr) 0 = j + endL (l.drop j) k) ∧ wr = w) (fun _ i _ => n - (intOf i).toNat)
  case atStart => exact ⟨0, fr, by omega, hf, Nat.le_refl _, rfl, rfl, rfl, rfl⟩
  case round =>
    obtain ⟨k, j, hk, hj, hfj, rfl, rfl, hE, rfl⟩ := hrel
    by_cases hlt : j < n
    · obtain ⟨b, off, rfl, hb, hS, hc0, hc1⟩ := HL.out.at_ hlt
      have hE' := hE.out
      rw [drop_at (j := j) (by rw [HL.out.len]; exact hlt)] at hE'
      generalize l.getD j (0, 0) = p at hc0 hc1 hE'
      simp only [endL] at hE'
      by_cases h3 : p.1 = 3
      · rw [if_pos h3] at hE'
        have HE := Lib.hid (show fr + endL (l.drop fr) 0 = (j + 1) + endL (l.drop (j + 1)) (k + 1) by omega)
        rw [h3] at hc0
        clear hE hE' hc1 h3
        go_wp2
        exact ⟨⟨k + 1, j + 1, by omega, by omega, by omega, by go_num, by go_num, HE, trivial⟩, by simp [intOf]; omega⟩
      · rw [if_neg h3] at hE'
        by_cases h4 : p.1 = 4
        · rw [if_pos h4] at hE'
          rw [h4] at hc0
          by_cases h0 : k = 0
          · subst h0
            rw [if_pos rfl] at hE'
            have HE := Lib.hid (show fr + endL (l.drop fr) 0 = j by omega)
            clear hE hE' hc1 h3 h4
            go_wp2
            go_ret
            exact ⟨by rw [HE.out]; rfl, rfl⟩
          · rw [if_neg h0] at hE'
            have HE := Lib.hid (show fr + endL (l.drop fr) 0 = (j + 1) + endL (l.drop (j + 1)) (k - 1) by omega)
            have hk0 : ((k : Int) == 0) = false := by simpa using h0
            clear hE hE' hc1 h3 h4
            go_wp2
            exact ⟨⟨k - 1, j + 1, by omega, by omega, by omega, by go_num, by go_num, HE, trivial⟩, by simp [intOf]; omega⟩
        · rw [if_neg h4] at hE'
          have HE := Lib.hid (show fr + endL (l.drop fr) 0 = (j + 1) + endL (l.drop (j + 1)) k by omega)
          have e3 : (p.1 == 3) = false := by simpa using h3
          have e4 : (p.1 == 4) = false := by simpa using h4
          clear hE hE' hc1 h3 h4
          go_wp2
          exact ⟨⟨k, j + 1, by omega, by omega, by omega, rfl, by go_num, HE, trivial⟩, by simp [intOf]; omega⟩
    · obtain rfl : j = n := by omega
      have hE' := hE.out
      rw [List.drop_eq_nil_of_le (i := j) (by rw [HL.out.len]; exact Nat.le_refl _)] at hE'
      have HE := Lib.hid (show fr + endL (l.drop fr) 0 = j by rw [hE']; simp [endL])
      clear hE hE'
      go_wp2
      go_ret
      exact ⟨by rw [HE.out]; rfl, rfl⟩
end Go.Proofs.Ytmmckhkiclifjaa
