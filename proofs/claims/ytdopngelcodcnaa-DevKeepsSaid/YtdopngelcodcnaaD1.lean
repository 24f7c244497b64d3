/- The device: its calls. -/
import Derived.Test.YtdopngelcodcnaaC1
namespace Go.Proofs.Ytdopngelcodcnaa
open Go.RowKit

/-- The device at block g, its bytes D in block h, R read, M written. -/
def Dv (w : World) (base g h : Nat) (D : List UInt8) (R M : Nat) : Prop :=
  base ≤ g ∧ base ≤ h ∧ Whole w h 5 (D.map bv).toArray ∧ Whole w g 44 #[.slice (some ⟨h, 0, none⟩) D.length D.length, .int .i64 (R : Nat), .int .i64 (M : Nat)]
theorem Dv.ne {w : World} {base g h R M : Nat} {D : List UInt8} (hV : Dv w base g h D R M) : g ≠ h := by
  intro e
  subst e
  have h1 := hV.2.2.1
  have h2 := hV.2.2.2
  unfold Whole at h1 h2
  rw [h1] at h2
  injection h2 with h2
  injection h2 with _ h2
  cases h2
theorem Dv.below {w w' : World} {base g h R M : Nat} {D : List UInt8} (hV : Dv w base g h D R M) (hb : Below w.heap.size w w') : Dv w' base g h D R M := ⟨hV.1, hV.2.1, hV.2.2.1.below' hb, hV.2.2.2.below' hb⟩
theorem right_any (n : Nat) (w : World) (h : n ≤ 16777216) : Calls Try.prog 14 #[.int .i64 (n : Nat)] w fun e w' => e = .returned (.bool true) ∧ w = w' := by
  have d1 : decide ((0 : Int) ≤ (n : Int)) = true := by simp
  have d2 : decide ((n : Int) ≤ 16777216) = true := by simp; omega
  go_enter Try.func14, Try.ntmps14
  go_wp2
  go_ret
  exact ⟨rfl, rfl⟩
/-- Is such a range there? -/
def inB (n : Nat) (a k : Int) : Bool := decide (0 ≤ k ∧ 0 ≤ a ∧ a ≤ (n : Int) ∧ k ≤ (n : Int) - a)
theorem exists_any (g h : Nat) (D : List UInt8) (R M : Nat) (a k : Int) (base : Nat) (w : World) (hV : Dv w base g h D R M) (hD : D.length ≤ 16777216) (hk : k ≤ 9223372036854775807) (hk0 : -9223372036854775808 ≤ k) (ha : a ≤ 9223372036854775807) (ha0 : -9223372036854775808 ≤ a) :
    Calls Try.prog 22 #[.pointer (some ⟨g, 0, none⟩), .int .i64 a, .int .i64 k] w fun e w' => e = .returned (.bool (inB D.length a k)) ∧ w = w' := by
  have c0 := hV.2.2.2.cell 0
  clear hV
  obtain ⟨n, hn⟩ : ∃ n, D.length = n := ⟨_, rfl⟩
  rw [hn] at c0 hD ⊢
  clear hn
  by_cases h1 : 0 ≤ k
  · have d1 : decide (0 ≤ k) = true := by simpa using h1
    by_cases h2 : 0 ≤ a
    · have d2 : decide (0 ≤ a) = true := by simpa using h2
      by_cases h3 : a ≤ (n : Int)
      · have d3 : decide (a ≤ (n : Int)) = true := by simpa using h3
        by_cases h4 : k ≤ (n : Int) - a
        · have d4 : decide (k ≤ (n : Int) - a) = true := by simpa using h4
          rw [show inB n a k = true by unfold inB; simp; omega]
          go_enter Try.func22, Try.ntmps22
          go_wp2
          go_ret
          exact ⟨rfl, rfl⟩
        · have d4 : decide (k ≤ (n : Int) - a) = false := by simpa using h4
          rw [show inB n a k = false by unfold inB; simp; omega]
          go_enter Try.func22, Try.ntmps22
          go_wp2
          go_ret
          exact ⟨rfl, rfl⟩
      · have d3 : decide (a ≤ (n : Int)) = false := by simpa using h3
        rw [show inB n a k = false by unfold inB; simp; omega]
        go_enter Try.func22, Try.ntmps22
        go_wp2
        go_ret
        exact ⟨rfl, rfl⟩
    · have d2 : decide (0 ≤ a) = false := by simpa using h2
      rw [show inB n a k = false by unfold inB; simp; omega]
      go_enter Try.func22, Try.ntmps22
      go_wp2
      go_ret
      exact ⟨rfl, rfl⟩
  · have d1 : decide (0 ≤ k) = false := by simpa using h1
    rw [show inB n a k = false by unfold inB; simp; omega]
    go_enter Try.func22, Try.ntmps22
    go_wp2
    go_ret
    exact ⟨rfl, rfl⟩
def Made (w : World) (n : Nat) (e : Ending) (w' : World) : Prop := ∃ g h, e = .returned (.tuple #[.pointer (some ⟨g, 0, none⟩), .int .i64 0]) ∧ Dv w' w.heap.size g h (List.replicate n 0) 0 0 ∧ Below w.heap.size w w'
theorem new_any (n : Nat) (w : World) (hn : n ≤ 16777216) : Calls Try.prog 7 #[.int .i64 (n : Nat)] w (Made w n) := by
  obtain ⟨i0, hi, hz0, hz1, hz2⟩ := info_parts info5
  go_enter Try.func7, Try.ntmps7
  go_wp2_with fail
  refine (right_any n w hn).mono ?_
  rintro e w1 ⟨rfl, rfl⟩
  go_wp2_with (at_make
               refine wpList_make_full _ rfl _ _ 29 rfl w.heap.size 5 i0 (.int .u8 0) 1 Try.underlying29 hi hz0 hz1 .i64 .i64 (n : Nat) (n : Nat) n rfl rfl (by simp) (by simp) (by rw [hz2]; omega) (by unfold maxLen; omega) (Nat.le_refl _) ?_
               intro w1 hown hg
               rw [toList_made_int, zeros_bv] at hown
               have HH := Lib.hid (own_heap hown)
               have HB1 := Lib.hid ((Below.refl w.heap.size w).grown hg (Nat.le_refl _) (fun _ h => by cases h))
               have hlt := (hown.lt w.heap.size rfl).2
               clear hown hg)
  go_ret2
  refine ⟨w1.heap.size, w.heap.size, rfl, ⟨by omega, Nat.le_refl _, (show Whole w1 w.heap.size 5 _ from HH.out).alloc _, ?_⟩, HB1.out.alloc (by omega) _⟩
  rw [List.length_replicate]
  exact Whole.new _ _ _ rfl
end Go.Proofs.Ytdopngelcodcnaa
