/- Little-endian integers: the page's own answers, numbers and places. -/
import Derived.Test.YtjndcehmlegacaaW4
namespace Go.Proofs.Ytjndcehmlegacaa
open Go.RowKit

theorem pow_le8 (n : Nat) (h : n ≤ 8) : 256 ^ n ≤ 18446744073709551616 := by
  have : (256 : Nat) ^ n ≤ 256 ^ 8 := Nat.pow_le_pow_right (by omega) h
  exact this
set_option maxHeartbeats 400000 in
theorem number_any (A : Option Addr) (n c : Nat) (bs : List UInt8) (S : Nat → Prop) (w : World) (hB : Bs w S A n bs) (hn : n ≤ 8) :
    Calls Try.prog 13 #[.slice A n c] w fun e w' => e = .returned (.int .u64 (num bs : Nat)) ∧ w = w' := by
  have hl := hB.len
  have HB := Lib.hid hB
  clear hB
  go_enter Try.func13, Try.ntmps13
  go_wp2
  go_loop [3, 4] (fun v i => ∃ m : Nat, m ≤ n ∧ i = .int .i64 ((m : Int) - 1) ∧ v = .int .u64 (num (bs.drop m) : Nat)) (fun _ i => (intOf i + 1).toNat)
  case atStart => exact ⟨n, Nat.le_refl _, rfl, by rw [List.drop_eq_nil_of_le (by omega)]; rfl⟩
  case round =>
    obtain ⟨m, hm, rfl, rfl⟩ := hrel
    by_cases hlt : 0 < m
    · obtain ⟨j, rfl⟩ : ∃ j, m = j + 1 := ⟨m - 1, by omega⟩
      obtain ⟨b, off, rfl, _, _, hc⟩ := HB.out.at_ (i := j) (by omega)
      have hcb := byte_bd (bs.getD j 0)
      have HN : Hid (num (bs.drop j) = (bs.getD j 0).toNat + 256 * num (bs.drop (j + 1))) := Lib.hid (by
        rw [List.drop_eq_getElem_cons (show j < bs.length by omega), num, List.getD_eq_getElem?_getD, List.getElem?_eq_getElem (show j < bs.length by omega)]
        rfl)
      have hb1 := num_lt (bs.drop j)
      rw [List.length_drop] at hb1
      have hb2 := pow_le8 (bs.length - j) (by omega)
      rw [HN.out] at hb1
      have hb3 : (bs.getD j 0).toNat + 256 * num (bs.drop (j + 1)) < 18446744073709551616 := by omega
      clear hb1 hb2
      generalize num (bs.drop (j + 1)) = x at *
      generalize bs.getD j 0 = q at *
      have ej : (((j + 1 : Nat) : Int) - 1) = (j : Int) := by omega
      rw [ej]
      go_wp2
      exact ⟨⟨j, by omega, rfl, by rw [HN.out]; congr 1; omega⟩, by simp [intOf]⟩
    · obtain rfl : m = 0 := by omega
      go_wp2
      go_ret
      exact ⟨rfl, rfl⟩
set_option maxHeartbeats 1000000 in
theorem join_any (A B : Option Addr) (n m c d : Nat) (xs ys : List UInt8) (S R : Nat → Prop) (w : World) (hA : Bs w S A n xs) (hB : Bs w R B m ys) (hn : n + m ≤ 140737488355328) :
    Calls Try.prog 14 #[.slice A n c, .slice B m d] w fun e w' => ∃ A' c', e = .returned (.slice A' (n + m) c') ∧ w'.ownsRow w.heap.size 5 1 (.slice A' (n + m) c') (n + m) ((xs ++ ys).map bv) ∧ Below w.heap.size w w' := by
  obtain ⟨i0, hi, hz0, hz1, hz2⟩ := info_parts info5
  have HA := Lib.hid hA
  have HB := Lib.hid hB
  clear hA hB
  go_enter Try.func14, Try.ntmps14
  go_wp2_with (first
    | (at_builtin
       refine wpList_append_list _ rfl (.tmp 5) (.tmp 6) 22 rfl w.heap.size 5 i0 (.int .u8 0) 1 1 Try.underlying22 hi hz0 hz1 hz2 rfl (by decide) (.slice (some ⟨w.heap.size, 0, none⟩) 0 0) 0 [] rfl (World.ownsRow_made w #[] 0 (Nat.le_refl _) (by unfold maxLen; omega) rfl) _ A n c _ rfl (Lst.alloc HA.out _) oneCell_bytes (by unfold maxLen; omega) (by omega) (by simp) ?_
       intro A3 c3 x3 hown3 hgrow3 hat3
       have HW3 := Lib.hid (((Below.refl w.heap.size w).alloc (Nat.le_refl _) (.cells #[] 5)).grown hgrow3 (by simp) (fun g e => by simp [Value.ownBlock] at e; omega))
       have HO3 : Hid (x3.ownsRow w.heap.size 5 1 (.slice A3 n c3) n (xs.map bv)) := Lib.hid (by simpa using hown3)
       have HB3 := Lib.hid (HB.out.below HW3.out)
       clear hown3 hgrow3 hat3)
    | (at_builtin
       refine wpList_append_list _ rfl (.tmp 7) (.tmp 8) 22 rfl w.heap.size 5 i0 (.int .u8 0) 1 1 Try.underlying22 hi hz0 hz1 hz2 rfl (by decide) (.slice A3 n c3) n _ rfl HO3.out _ B m d _ rfl HB3.out oneCell_bytes (by unfold maxLen; omega) (by omega) HW3.out.size ?_
       intro A4 c4 x4 hown4 hgrow4 hat4
       have HW4 := Lib.hid (HW3.out.grown hgrow4 HW3.out.size (fun g e => (HO3.out.lt g e).1))
       have HO4 := Lib.hid hown4
       clear hown4 hgrow4 hat4 HW3 HO3))
  go_ret
  exact ⟨A4, c4, rfl, by rw [List.map_append]; exact HO4.out, HW4.out⟩
theorem in_any (n at' k : Int) (w : World) (hn0 : 0 ≤ n) (hn : n ≤ 9223372036854775807) (h0 : -9223372036854775808 ≤ at') (h1 : at' ≤ 9223372036854775807) (b : Bool) (hb : decide (1 ≤ k ∧ k ≤ 8 ∧ 0 ≤ at' ∧ at' ≤ n ∧ k ≤ n - at') = b) :
    Calls Try.prog 15 #[.int .i64 n, .int .i64 at', .int .i64 k] w fun e w' => e = .returned (.bool b) ∧ w = w' := by
  by_cases c1 : 1 ≤ k
  · by_cases c2 : k ≤ 8
    · by_cases c3 : 0 ≤ at'
      · by_cases c4 : at' ≤ n
        · have e : b = decide (k ≤ n - at') := by rw [← hb]; simp [c1, c2, c3, c4]
          subst e
          clear hb
          go_enter Try.func15, Try.ntmps15
          go_wp2
          go_ret
          exact ⟨by simp, rfl⟩
        · obtain rfl : b = false := by rw [← hb]; simp; omega
          clear hb
          go_enter Try.func15, Try.ntmps15
          go_wp2
          go_ret
          exact ⟨by simp, rfl⟩
      · obtain rfl : b = false := by rw [← hb]; simp; omega
        clear hb
        go_enter Try.func15, Try.ntmps15
        go_wp2
        go_ret
        exact ⟨by simp, rfl⟩
    · obtain rfl : b = false := by rw [← hb]; simp; omega
      clear hb
      go_enter Try.func15, Try.ntmps15
      go_wp2
      go_ret
      exact ⟨by simp, rfl⟩
  · obtain rfl : b = false := by rw [← hb]; simp; omega
    clear hb
    go_enter Try.func15, Try.ntmps15
    go_wp2
    go_ret
    exact ⟨by simp, rfl⟩
end Go.Proofs.Ytjndcehmlegacaa
