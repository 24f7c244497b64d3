/- The page's lists of bits. -/
import Derived.Test.YthpbiakjkmhfeaaW3
namespace Go.Proofs.Ythpbiakjkmhfeaa
open Go.RowKit

abbrev bo (b : Bool) : Value := .bool b
def bitsOf (v k : Nat) : List Bool := (List.range k).map fun i => decide (v / 2 ^ i % 2 = 1)
theorem bitsOf_len (v k : Nat) : (bitsOf v k).length = k := by simp [bitsOf]
theorem bitsOf_succ (v k : Nat) : bitsOf v (k + 1) = bitsOf v k ++ [decide (v / 2 ^ k % 2 = 1)] := by simp [bitsOf, List.range_succ]
theorem info4 : (Try.prog.info? 4).map (fun i => (i.zero, i.size, i.bytes)) = some (some (.bool false), 1, 1) := by kernel_rfl
theorem oneCell_bools {bs : List Bool} : ∀ u ∈ bs.map bo, u.oneCell' = true := by
  intro u hu
  obtain ⟨n, _, rfl⟩ := List.mem_map.1 hu
  rfl
def Rput (w : World) (n : Nat) (bs : List Bool) (e : Ending) (w' : World) : Prop :=
  ∃ A' c', e = .returned (.slice A' n c') ∧ w'.ownsRow w.heap.size 4 1 (.slice A' n c') n (bs.map bo) ∧ Below w.heap.size w w'
set_option maxHeartbeats 1000000 in
theorem rput_any (A : Option Addr) (n c : Nat) (bs : List Bool) (S : Nat → Prop) (v k : Nat) (w : World) (hA : Lst w S 1 A n (bs.map bo)) (hn : n ≤ 1099511627776) (hk : k ≤ 64) (hv : v < 4294967296) :
    Calls Try.prog 9 #[.slice A n c, .int .u32 v, .int .i64 k] w (Rput w (n + k) (bs ++ bitsOf v k)) := by
  obtain ⟨i0, hi, hz0, hz1, hz2⟩ := info_parts info4
  have HA := Lib.hid hA
  clear hA
  go_enter Try.func9, Try.ntmps9
  go_wp2_with (at_builtin; refine wpList_append_list _ rfl (.tmp 9) (.tmp 10) 26 rfl w.heap.size 4 i0 (.bool false) 1 1 Try.underlying26 hi hz0 hz1 hz2 rfl (by decide) (.slice (some ⟨w.heap.size, 0, none⟩) 0 0) 0 [] rfl (World.ownsRow_made w #[] 0 (Nat.le_refl _) (by unfold maxLen; omega) rfl) _ A n c _ rfl (Lst.alloc HA.out _) oneCell_bools (by unfold maxLen; omega) (by omega) (by simp) ?_)
  intro A3 c3 x3 hown3 hgrow3 hat3
  have HW3 := Lib.hid (((Below.refl w.heap.size w).alloc (Nat.le_refl _) (.cells #[] 4)).grown hgrow3 (by simp) (fun g e => by simp [Value.ownBlock] at e; omega))
  have HO3 : Hid (x3.ownsRow w.heap.size 4 1 (.slice A3 n c3) n (bs.map bo)) := Lib.hid (by simpa using hown3)
  clear hown3 hgrow3 hat3
  go_wp2
  go_loopw [1, 7, 8] (fun x o i wr => ∃ (j : Nat) (A2 : Option Addr) (c2 y : Nat), j ≤ k ∧ i = .int .i64 j ∧ x = .int .u32 (y : Nat) ∧ Hid (v / 2 ^ j = y) ∧ y < 4294967296 ∧ o = .slice A2 (n + j) c2 ∧ Hid (wr.ownsRow w.heap.size 4 1 (.slice A2 (n + j) c2) (n + j) ((bs ++ bitsOf v j).map bo)) ∧ Hid (Below w.heap.size w wr)) (fun _ _ i _ => k - (intOf i).toNat)
  case atStart => exact ⟨0, A3, c3, v, Nat.zero_le _, rfl, rfl, Lib.hid (by simp), hv, rfl, Lib.hid (by simpa [bitsOf] using HO3.out), HW3⟩
  case round =>
    obtain ⟨j, A2, c2, y, hj, rfl, rfl, hy, hyb, rfl, hO, hB⟩ := hrel
    by_cases hlt : j < k
    · obtain ⟨b, hb⟩ : ∃ b, decide (y % 2 = 1) = b := ⟨_, rfl⟩
      have hb1 : ((y : Int) % 2 == 1) = b := by
        rw [← hb]
        by_cases h : y % 2 = 1
        · simp [h]; omega
        · simp [h]; omega
      have HV : Hid (bitsOf v (j + 1) = bitsOf v j ++ [b]) := Lib.hid (by rw [bitsOf_succ, hy.out, hb])
      have HY : Hid (v / 2 ^ (j + 1) = y / 2) := Lib.hid (by rw [← hy.out, Nat.pow_succ, Nat.div_div_eq_div_mul])
      obtain ⟨m, hm⟩ : ∃ m, n + j = m := ⟨_, rfl⟩
      rw [hm] at hO ⊢
      have HM := Lib.hid hm
      have hmb : m ≤ 1099511627900 := by omega
      clear hb hy hm
      go_wp2_with (at_builtin; refine wpList_append_list _ rfl (.tmp 17) (.tmp 21) 26 rfl w.heap.size 4 i0 (.bool false) 1 1 Try.underlying26 hi hz0 hz1 hz2 rfl (by decide) _ m _ rfl (hO.out.alloc _) _ (some ⟨wr.heap.size, 0, none⟩) 1 1 [.bool b] rfl (Lst.new wr 4 #[.bool b] 1 rfl rfl) (by simp [Value.oneCell']) (by unfold maxLen; omega) (by omega) (by have := hB.out.size; simp; omega) ?_)
      intro A4 c4 x4 hown4 hgrow4 hat4
      have HO4 : Hid (x4.ownsRow w.heap.size 4 1 (.slice A4 (n + (j + 1)) c4) (n + (j + 1)) ((bs ++ bitsOf v (j + 1)).map bo)) := by
        rw [HV.out, List.map_append, List.map_append, List.map_singleton, show n + (j + 1) = m + 1 by have := HM.out; omega]
        exact Lib.hid hown4
      have HW4 := Lib.hid ((hB.out.alloc hB.out.size _).grown hgrow4 (by have := hB.out.size; simp; omega) (fun g e => (hO.out.lt g e).1))
      clear hown4 hgrow4 hat4 HV
      go_wp2
      exact ⟨⟨j + 1, A4, c4, y / 2, by omega, by go_num, by simp, HY, by omega, by rw [show n + (j + 1) = m + 1 by have := HM.out; omega], HO4, HW4⟩, by simp [intOf]; omega⟩
    · obtain rfl : j = k := by omega
      go_wp2
      go_ret
      exact ⟨A2, c2, rfl, hO.out, hB.out⟩
end Go.Proofs.Ythpbiakjkmhfeaa
