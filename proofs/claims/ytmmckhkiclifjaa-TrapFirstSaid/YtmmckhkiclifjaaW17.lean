/- First, of functions that count and have errors. -/
import Derived.Test.YtmmckhkiclifjaaW16
namespace Go.Proofs.Ytmmckhkiclifjaa
open Go.RowKit

def FB : List (Int × Int) → Nat
  | [] => 0
  | p :: r => if bad p then 0 else FB r + 1
def FC : List (Int × Int) → Int
  | [] => 0
  | p :: r => if bad p then badCode p else FC r
theorem FB_le (l : List (Int × Int)) : FB l ≤ l.length := by
  induction l with
  | nil => simp [FB]
  | cons p r ih => simp only [FB, List.length_cons]; split <;> omega
def fv (g b : Nat) : Value := .func (.func 21) #[] #[.pointer (some ⟨g, 0, none⟩), .pointer (some ⟨b, 0, none⟩)]
/-- The steps' own blocks. -/
def Boxes (w : World) (g : Nat) (bs : List Nat) (l : List (Int × Int)) : Prop := ∀ i, i < l.length → Whole w (bs.getD i 0) 45 #[.int .i64 (l.getD i (0, 0)).1, .int .i64 (l.getD i (0, 0)).2] ∧ bs.getD i 0 ≠ g
def FirstP (w : World) (g n : Nat) (l : List (Int × Int)) (e : Ending) (w' : World) : Prop :=
  e = .returned (.tuple #[.int .i64 (FB l : Nat), .int .i64 (FC l)]) ∧ Cnt w g (min (FB l + 1) n : Nat) w'
set_option maxHeartbeats 1000000 in
theorem first_any (A : Option Addr) (n c g : Nat) (bs : List Nat) (l : List (Int × Int)) (w : World) (hL : Lst w (fun k => k ≠ g) 1 A n (bs.map (fv g))) (hl : l.length = n) (hB : Boxes w g bs l) (hg : Whole w g 3 #[.int .i64 0]) (hn : n ≤ 1000) :
    Calls Try.prog 23 #[.slice A n c] w (FirstP w g n l) := by
  have HL := Lib.hid hL
  have HB := Lib.hid hB
  have HG := Lib.hid hg
  clear hL hB hg
  go_enter Try.func23, Try.ntmps23
  go_wp2
  go_loopw [10] (fun i wr => ∃ (j : Nat), j ≤ n ∧ i = .int .i64 j ∧ Hid (FB l = j + FB (l.drop j)) ∧ Hid (FC l = FC (l.drop j)) ∧ Hid (Cnt w g (j : Nat) wr)) (fun i _ => n - (intOf i).toNat)
  case atStart => exact ⟨0, Nat.zero_le _, rfl, Lib.hid (by simp), Lib.hid (by simp), Lib.hid ⟨Alone.refl _ _, HG.out⟩⟩
  case round =>
    obtain ⟨j, hj, rfl, hF, hC, hcn⟩ := hrel
    by_cases hlt : j < n
    · have hbn : bs.length = n := by have := HL.out.1; simpa using this
      have hLr := HL.out.keep hcn.out.1.size fun k hk h2 => hcn.out.1.2.2.2.2 k hk h2
      obtain ⟨b, off, rfl, _, _, hc⟩ := hLr.2 (by omega)
      have hcj := hc j (fv g (bs.getD j 0)) (by rw [List.getElem?_map, List.getElem?_eq_getElem (by omega), List.getD_eq_getElem?_getD, List.getElem?_eq_getElem (by omega)]; rfl)
      obtain ⟨hb1, hb2⟩ := HB.out j (by omega)
      have ht := try21 g (bs.getD j 0) j (l.getD j (0, 0)) wr hcn.out.2 (hcn.out.1.whole hb1 hb2) hb2 (by omega) (by omega)
      have hF' := hF.out
      have hC' := hC.out
      rw [drop_at (j := j) (by omega)] at hF' hC'
      have hbc := bad_code (l.getD j (0, 0))
      generalize l.getD j (0, 0) = p at ht hF' hC' hbc
      generalize bs.getD j 0 = bj at hcj ht
      have HT := Lib.hid ht
      clear ht hc hLr hb1 hb2 hF hC
      simp only [fv] at hcj
      cases hbad : bad p with
      | true =>
        have hq := hbc.1 hbad
        simp only [FB, FC, hbad, if_true] at hF' hC'
        have HF := Lib.hid (show FB l = j by simpa using hF')
        have HC := Lib.hid hC'
        clear hF' hC' hbc hbad
        by_cases hp : p.1 = 1
        · simp only [if_pos hp] at HT
          generalize badCode p = q at hq HT HC
          have HQ := Lib.hid hq
          have hne : (q != 0) = true := by simpa using hq
          clear hq hp
          go_wp2_with fail
          refine HT.out.mono ?_
          rintro e w1 ⟨rfl, hc1⟩
          have HC1 := Lib.hid (show Cnt w g ((j + 1 : Nat) : Int) w1 from ⟨hcn.out.1.trans hc1.1, hc1.2⟩)
          clear hc1 hcn
          go_wp2
          all_goals first
            | exact (HQ.out (by first | rfl | assumption)).elim
            | (simp [bodyPost, results, Try.results23, go_sem]; exact ⟨by rw [HF.out, HC.out], by rw [HF.out, Nat.min_eq_left (by omega)]; exact HC1.out⟩)
        · simp only [if_neg hp] at HT
          generalize badCode p = q at hq HT HC
          have HQ := Lib.hid hq
          have hne : (q != 0) = true := by simpa using hq
          clear hq hp
          go_wp2_with fail
          refine HT.out.mono ?_
          rintro e w1 ⟨rfl, hc1⟩
          have HC1 := Lib.hid (show Cnt w g ((j + 1 : Nat) : Int) w1 from ⟨hcn.out.1.trans hc1.1, hc1.2⟩)
          clear hc1 hcn
          go_wp2
          all_goals first
            | exact (HQ.out (by first | rfl | assumption)).elim
            | (simp [bodyPost, results, Try.results23, go_sem]; exact ⟨by rw [HF.out, HC.out], by rw [HF.out, Nat.min_eq_left (by omega)]; exact HC1.out⟩)
      | false =>
        obtain ⟨hq, hp⟩ := hbc.2 hbad
        simp only [FB, FC, hbad, if_false, Bool.false_eq_true] at hF' hC'
        have HF := Lib.hid (show FB l = (j + 1) + FB (l.drop (j + 1)) by omega)
        have HC := Lib.hid hC'
        simp only [if_neg hp, hq] at HT
        clear hF' hC' hbc hbad hp hq
        go_wp2_with fail
        refine HT.out.mono ?_
        rintro e w1 ⟨rfl, hc1⟩
        have HC1 := Lib.hid (show Cnt w g ((j + 1 : Nat) : Int) w1 from ⟨hcn.out.1.trans hc1.1, hc1.2⟩)
        clear hc1 hcn
        go_wp2
        exact ⟨⟨j + 1, by omega, by go_num, HF, HC, HC1⟩, by simp [intOf]; omega⟩
    · obtain rfl : j = n := by omega
      have hF' := hF.out
      have hC' := hC.out
      rw [List.drop_eq_nil_of_le (i := j) (by omega)] at hF' hC'
      have HF := Lib.hid (show FB l = j by simpa [FB] using hF')
      have HC := Lib.hid (show FC l = 0 by simpa [FC] using hC')
      clear hF hC hF' hC'
      go_wp2
      simp [bodyPost, results, Try.results23, go_sem]
      exact ⟨by rw [HF.out, HC.out], by rw [HF.out, Nat.min_eq_right (by omega)]; exact hcn.out⟩
end Go.Proofs.Ytmmckhkiclifjaa
