/- Little-endian integers: the page's own answers. -/
import Derived.Test.YtjndcehmlegacaaW3
namespace Go.Proofs.Ytjndcehmlegacaa
open Go.RowKit

theorem one_u8 {c : Int} : ∀ u ∈ [Value.int .u8 c], u.oneCell' = true := by
  intro u hu
  simp at hu
  subst hu
  rfl
theorem rem_oct (v k : Nat) {x : Nat} (h : (v / 256 ^ k : Nat) = x) : Value.int .u8 ((x : Int) % 256) = bv (oct v k) := by
  subst h
  unfold bv
  rw [oct_nat]
  rfl
set_option maxHeartbeats 1000000 in
theorem rbytes_any (v k : Nat) (w : World) (hv : v < 18446744073709551616) (hk : k ≤ 8) :
    Calls Try.prog 12 #[.int .u64 v, .int .i64 k] w fun e w' => ∃ A c, e = .returned (.slice A k c) ∧ w'.ownsRow w.heap.size 5 1 (.slice A k c) k ((leB v k).map bv) ∧ Below w.heap.size w w' := by
  obtain ⟨i0, hi, hz0, hz1, hz2⟩ := info_parts info5
  go_enter Try.func12, Try.ntmps12
  go_wp2
  go_loopw [0, 5, 6] (fun x o i wr => ∃ (j : Nat) (A : Option Addr) (c y : Nat), j ≤ k ∧ i = .int .i64 j ∧ x = .int .u64 y ∧ Hid (v / 256 ^ j = y) ∧ y < 18446744073709551616 ∧ o = .slice A j c ∧ Hid (wr.ownsRow w.heap.size 5 1 (.slice A j c) j ((leB v j).map bv)) ∧ Hid (Below w.heap.size w wr)) (fun _ _ i _ => k - (intOf i).toNat)
  case atStart => exact ⟨0, none, 0, v, Nat.zero_le _, rfl, rfl, by show v / 256 ^ 0 = v; simp, hv, rfl, World.ownsRow_nil _ _ _ _, Below.refl _ _⟩
  case round =>
    obtain ⟨j, A, c, y, hj, rfl, rfl, hy, hyl, rfl, hO, hB⟩ := hrel
    by_cases hlt : j < k
    · have HV := Lib.hid (rem_oct v j hy.out)
      have HY : Hid (v / 256 ^ (j + 1) = y / 256) := Lib.hid (by rw [← hy.out, Nat.pow_succ, Nat.div_div_eq_div_mul])
      go_wp2_with (at_builtin; refine wpList_append_list _ rfl (.tmp 12) (.tmp 16) 22 rfl w.heap.size 5 i0 (.int .u8 0) 1 1 Try.underlying22 hi hz0 hz1 hz2 rfl (by decide) _ j _ rfl (hO.out.alloc _) _ (some ⟨wr.heap.size, 0, none⟩) 1 1 [.int .u8 ((y : Int) % 256)] rfl (Lst.new wr 5 #[.int .u8 ((y : Int) % 256)] 1 rfl rfl) one_u8 (by unfold maxLen; omega) (by omega) (by have := hB.out.size; simp; omega) ?_)
      intro A3 c3 x3 hown3 hgrow3 hat3
      have HO3 : Hid (x3.ownsRow w.heap.size 5 1 (.slice A3 (j + 1) c3) (j + 1) ((leB v (j + 1)).map bv)) := by
        rw [leB_succ, List.map_append, List.map_singleton, ← HV.out]
        exact Lib.hid hown3
      have HW3 := Lib.hid ((hB.out.alloc hB.out.size _).grown hgrow3 (by have := hB.out.size; simp; omega) (fun g e => (hO.out.lt g e).1))
      clear hown3 hgrow3 hat3 HV
      go_wp2
      exact ⟨⟨j + 1, A3, c3, y / 256, by omega, by go_num, by simp, HY, by omega, rfl, HO3, HW3⟩, by simp [intOf]; omega⟩
    · obtain rfl : j = k := by omega
      go_wp2
      go_ret
      exact ⟨A, c, rfl, hO.out, hB.out⟩
end Go.Proofs.Ytjndcehmlegacaa
