/- Little-endian integers: put, append. -/
import Derived.Test.YtjndcehmlegacaaW2
namespace Go.Proofs.Ytjndcehmlegacaa
open Go.RowKit

theorem put_no (A : Option Addr) (n c : Nat) (bs : List UInt8) (S : Nat → Prop) (at' k : Int) (v : Nat) (w : World) (hB : Bs w S A n bs) (hn : n ≤ 140737488355328) (h0 : -9223372036854775808 ≤ at') (h1 : at' ≤ 9223372036854775807) (hx : existsB n at' k = false) :
    Calls Try.prog 9 #[.slice A n c, .int .i64 at', .int .i64 k, .int .u64 v] w fun e w' => ∃ A' c', e = .returned (.tuple #[.slice A' n c', .bool false]) ∧ w'.ownsRow w.heap.size 5 1 (.slice A' n c') n (bs.map bv) ∧ Below w.heap.size w w' := by
  have HX := Lib.hid hx
  have HB := Lib.hid hB
  clear hx hB
  go_enter Try.func9, Try.ntmps9
  go_wp2_with fail
  refine (clone_any _ _ _ _ _ _ HB.out hn).mono ?_
  rintro e w1 ⟨A1, c1, rfl, ho1, hb1⟩
  have HO := Lib.hid ho1
  have HB1 := Lib.hid hb1
  clear ho1 hb1
  go_wp2_with fail
  refine (exists_any _ _ _ _ _ _ (by omega) h0 h1).mono ?_
  rw [HX.out]
  rintro e w2 ⟨rfl, rfl⟩
  go_wp2
  go_ret2
  exact ⟨A1, c1, rfl, HO.out, HB1.out⟩
set_option maxHeartbeats 400000 in
theorem put_yes (A : Option Addr) (n c : Nat) (bs : List UInt8) (S : Nat → Prop) (p k : Nat) (v : Nat) (w : World) (hB : Bs w S A n bs) (hn : n ≤ 140737488355328) (hk1 : 1 ≤ k) (hk2 : k ≤ 8) (hp : p + k ≤ n) (hv : v < 18446744073709551616) :
    Calls Try.prog 9 #[.slice A n c, .int .i64 p, .int .i64 k, .int .u64 v] w fun e w' => ∃ A' c', e = .returned (.tuple #[.slice A' n c', .bool true]) ∧ w'.ownsRow w.heap.size 5 1 (.slice A' n c') n ((overB bs p (leB v k)).map bv) ∧ Below w.heap.size w w' := by
  have HX : Hid (existsB n p k = true) := Lib.hid (by unfold existsB; simp; omega)
  have HB := Lib.hid hB
  clear hB
  go_enter Try.func9, Try.ntmps9
  go_wp2_with fail
  refine (clone_any _ _ _ _ _ _ HB.out hn).mono ?_
  rintro e w1 ⟨A1, c1, rfl, ho1, hb1⟩
  obtain ⟨g, cap, hv1, hg, hlt⟩ := ho1.form (by omega)
  injection hv1 with e1 _ e2
  subst e1 e2
  have hcap : n ≤ c1 ∧ c1 ≤ 9223372036854775807 := by
    rcases ho1.2 with ⟨h, _⟩ | ⟨g', c', cur, h, _, _, h1, h2, _⟩
    · cases h
    · injection h with _ _ h3
      subst h3
      unfold maxLen at h2
      exact ⟨h1, h2⟩
  obtain ⟨q1, q2⟩ := hcap
  have HO := Lib.hid ho1
  have HB1 := Lib.hid hb1
  clear ho1 hb1
  go_wp2_with fail
  refine (exists_any _ _ _ _ _ _ (by omega) (by omega) (by omega)).mono ?_
  rw [HX.out]
  rintro e w2 ⟨rfl, rfl⟩
  have r1 : (0 : Int) ≤ p := by omega
  have r2 : (p : Int) + k ≤ c1 := by omega
  have r3 : (p : Int) < c1 := by omega
  have r4 : p < c1 := by omega
  have r5 : c1 ≠ p := by omega
  go_wp2_with fail
  refine (set_any v g p k n c1 _ w.heap.size bs w1 HO.out hp hk2 hv hn).mono ?_
  rintro e w3 ⟨rfl, ho3, ha3⟩
  have HO3 := Lib.hid ho3
  have HB3 := Lib.hid (ha3.below HB1.out hg HB1.out.size)
  clear ho3 ha3 HO HB1
  go_wp2
  go_ret2
  exact ⟨_, _, rfl, HO3.out, HB3.out⟩
theorem append_wrong (A : Option Addr) (n c : Nat) (bs : List UInt8) (S : Nat → Prop) (k : Int) (v : Nat) (w : World) (hB : Bs w S A n bs) (hn : n ≤ 140737488355328) (hr : rightW k = false) :
    Calls Try.prog 11 #[.slice A n c, .int .i64 k, .int .u64 v] w fun e w' => ∃ A' c', e = .returned (.slice A' n c') ∧ w'.ownsRow w.heap.size 5 1 (.slice A' n c') n (bs.map bv) ∧ Below w.heap.size w w' := by
  have HR := Lib.hid hr
  have HB := Lib.hid hB
  clear hr hB
  go_enter Try.func11, Try.ntmps11
  go_wp2_with fail
  refine (right_any _ _).mono ?_
  rw [HR.out]
  rintro e w1 ⟨rfl, rfl⟩
  go_wp2_with fail
  refine (clone_any _ _ _ _ _ _ HB.out hn).mono ?_
  rintro e w1 ⟨A1, c1, rfl, ho1, hb1⟩
  have HO := Lib.hid ho1
  have HB1 := Lib.hid hb1
  clear ho1 hb1
  go_wp2
  go_ret
  exact ⟨A1, c1, rfl, HO.out, HB1.out⟩
theorem info_size5 : (Try.prog.info? 5).map (·.size) = some 1 := by kernel_rfl
set_option maxHeartbeats 1000000 in
theorem append_right (A : Option Addr) (n c : Nat) (bs : List UInt8) (S : Nat → Prop) (k : Nat) (v : Nat) (w : World) (hB : Bs w S A n bs) (hn : n ≤ 70368744177664) (hk1 : 1 ≤ k) (hk2 : k ≤ 8) (hv : v < 18446744073709551616) :
    Calls Try.prog 11 #[.slice A n c, .int .i64 k, .int .u64 v] w fun e w' => ∃ A' c', e = .returned (.slice A' (n + k) c') ∧ w'.ownsRow w.heap.size 5 1 (.slice A' (n + k) c') (n + k) ((bs ++ leB v k).map bv) ∧ Below w.heap.size w w' := by
  obtain ⟨i0, hi, hz0, hz1, hz2⟩ := info_parts info5
  have HR : Hid (rightW k = true) := Lib.hid (by unfold rightW; simp; omega)
  have hlen := hB.len
  have HB := Lib.hid hB
  clear hB
  go_enter Try.func11, Try.ntmps11
  go_wp2_with fail
  refine (right_any _ _).mono ?_
  rw [HR.out]
  rintro e w1 ⟨rfl, rfl⟩
  go_wp2_with (first
    | (at_make
       refine wpList_make_full _ rfl _ _ 22 rfl w.heap.size 5 i0 (.int .u8 0) 1 Try.underlying22 hi hz0 hz1 .i64 .i64 (n + k : Nat) (n + k : Nat) (n + k) rfl rfl (by simp) (by simp) (by rw [hz2]; omega) (by unfold maxLen; omega) (Nat.le_refl _) ?_
       intro w1 hown hg
       rw [toList_made_int, zeros_bv] at hown
       have HH := Lib.hid (own_heap hown)
       have HB1 := Lib.hid ((Below.refl w.heap.size w).grown hg (Nat.le_refl _) (fun _ h => by cases h))
       have HS1 := Lib.hid ((HB.out.below HB1.out).src)
       clear hown hg)
    | (with_reducible refine wpList_copy_splice rfl (.tmp 18) (.tmp 19) 22 22 rfl 5 Try.underlying22 info_size5 (some ⟨w.heap.size, 0, none⟩) A (n + k) (n + k) n c rfl rfl w.heap.size 0 ((List.replicate (n + k) (0 : UInt8)).map bv) 5 HH.out (bs.map bv) (by rw [List.length_map, hlen]; exact (Nat.min_eq_left (by omega)).symm) (fun h => ⟨rfl, HS1.out h⟩) (by simp; omega) oneCell_bytes w.heap.size w HB1.out (Nat.le_refl _) ?_
       intro w2 hh2 hb2
       have HB2 := Lib.hid hb2
       clear hb2 HB1 HS1))
  have e0 : splice ((List.replicate (n + k) (0 : UInt8)).map bv) 0 (bs.map bv) = (bs ++ List.replicate k (0 : UInt8)).map bv := by
    subst hlen
    simp [splice]
  have h2 := hh2.out
  rw [e0] at h2
  have HO2 := Lib.hid (own_of_heap (base := w.heap.size) h2 (n := n + k) (by simp; omega) (Nat.le_refl _) (by unfold maxLen; omega))
  clear h2 hh2 e0
  have r1 : (n : Int) < n + k := by omega
  have r2 : n + k ≠ n := by omega
  go_wp2_with fail
  refine (set_any v w.heap.size n k (n + k) (n + k) k w.heap.size (bs ++ List.replicate k (0 : UInt8)) w2 HO2.out (Nat.le_refl _) hk2 hv (by omega)).mono ?_
  rintro e w3 ⟨rfl, ho3, ha3⟩
  have HO3 : Hid (w3.ownsRow w.heap.size 5 1 (.slice (some ⟨w.heap.size, 0, none⟩) (n + k) (n + k)) (n + k) ((bs ++ leB v k).map bv)) := by
    have e : overB (bs ++ List.replicate k (0 : UInt8)) n (leB v k) = bs ++ leB v k := by
      subst hlen
      exact overB_end _ _ _ (by simp [leB_len])
    rw [e] at ho3
    exact Lib.hid ho3
  have HB3 := Lib.hid (ha3.below HB2.out (Nat.le_refl _) HB2.out.size)
  clear ho3 ha3 HO2 HB2
  go_wp2
  go_ret
  exact ⟨_, _, rfl, HO3.out, HB3.out⟩
end Go.Proofs.Ytjndcehmlegacaa
