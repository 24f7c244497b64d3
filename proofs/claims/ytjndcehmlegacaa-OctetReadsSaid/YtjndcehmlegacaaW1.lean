/- Little-endian integers: the program's own calls. -/
import Derived.Test.YtjndcehmlegacaaRows
import Derived.Test.YtjndcehmlegacaaOver
import Derived.Test.YtjndcehmlegacaaBytes
import Derived.Test.YtjndcehmlegacaaBits
import Derived.Test.YtjndcehmlegacaaBlk
import Derived.Test.YtjndcehmlegacaaFill
import Derived.Test.YtjndcehmlegacaaSoft
import Derived.WalkSpells
import Derived.WalkLawsBesides
import Derived.Lib.Hide
import Derived.Lib.ItoaNum
import Derived.LoopTactic
import Derived.OwnWalk
namespace Go.Proofs.Ytjndcehmlegacaa
open Go.RowKit

def rightW (k : Int) : Bool := decide (1 ≤ k ∧ k ≤ 8)
theorem right_any (k : Int) (w : World) : Calls Try.prog 7 #[.int .i64 k] w fun e w' => e = .returned (.bool (rightW k)) ∧ w = w' := by
  have e : rightW k = (decide (1 ≤ k) && decide (k ≤ 8)) := by unfold rightW; rw [Bool.decide_and]
  rw [e]
  by_cases h : 1 ≤ k
  · go_enter Try.func7, Try.ntmps7
    go_wp2
    go_ret
    exact ⟨by simp [h], rfl⟩
  · have h' : k < 1 := by omega
    go_enter Try.func7, Try.ntmps7
    go_wp2
    go_ret
    exact ⟨by simp; omega, rfl⟩
def existsB (n : Nat) (at' k : Int) : Bool := decide (1 ≤ k ∧ k ≤ 8 ∧ 0 ≤ at' ∧ at' ≤ n - k)
theorem exists_any (A : Option Addr) (n c : Nat) (at' k : Int) (w : World) (hn : n ≤ 9223372036854775807) (h0 : -9223372036854775808 ≤ at') (h1 : at' ≤ 9223372036854775807) :
    Calls Try.prog 21 #[.slice A n c, .int .i64 at', .int .i64 k] w fun e w' => e = .returned (.bool (existsB n at' k)) ∧ w = w' := by
  by_cases hr : 1 ≤ k ∧ k ≤ 8
  · have hr' : rightW k = true := by unfold rightW; simp [hr]
    have HR := Lib.hid hr'
    clear hr'
    obtain ⟨k1, k2⟩ := hr
    by_cases h2 : 0 ≤ at'
    · have d2 : decide (0 ≤ at') = true := by simp [h2]
      have e : existsB n at' k = decide (at' ≤ n - k) := by unfold existsB; simp [h2, k1, k2]
      rw [e]
      go_enter Try.func21, Try.ntmps21
      go_wp2_with fail
      refine (right_any _ _).mono ?_
      rw [HR.out]
      rintro e w1 ⟨rfl, rfl⟩
      go_wp2
      go_ret
      exact ⟨rfl, rfl⟩
    · have d2 : decide (0 ≤ at') = false := by simp; omega
      have e : existsB n at' k = false := by unfold existsB; simp; omega
      rw [e]
      go_enter Try.func21, Try.ntmps21
      go_wp2_with fail
      refine (right_any _ _).mono ?_
      rw [HR.out]
      rintro e w1 ⟨rfl, rfl⟩
      go_wp2
      go_ret
      exact ⟨rfl, rfl⟩
  · have hr' : rightW k = false := by unfold rightW; simp only [hr, decide_false]
    have e : existsB n at' k = false := by unfold existsB; simp only [decide_eq_false_iff_not]; omega
    rw [e]
    have HR := Lib.hid hr'
    clear hr' hr e
    go_enter Try.func21, Try.ntmps21
    go_wp2_with fail
    refine (right_any _ _).mono ?_
    rw [HR.out]
    rintro e w1 ⟨rfl, rfl⟩
    go_wp2
    go_ret
    exact ⟨rfl, rfl⟩
theorem info5 : (Try.prog.info? 5).map (fun i => (i.zero, i.size, i.bytes)) = some (some (.int .u8 0), 1, 1) := by kernel_rfl
set_option maxHeartbeats 400000 in
theorem clone_any (A : Option Addr) (n c : Nat) (bs : List UInt8) (S : Nat → Prop) (w : World) (hL : Bs w S A n bs) (hn : n ≤ 140737488355328) :
    Calls Try.prog 22 #[.slice A n c] w fun e w' => ∃ A' c', e = .returned (.slice A' n c') ∧ w'.ownsRow w.heap.size 5 1 (.slice A' n c') n (bs.map bv) ∧ Below w.heap.size w w' := by
  obtain ⟨i0, hi, hz0, hz1, hz2⟩ := info_parts info5
  have HL := Lib.hid hL
  clear hL
  have eq := fun (w : World) => Lib.run_eql_slice_nil (P := Try.prog) w 22 5 A n c 0 0 Try.underlying22
  rcases A with _ | a
  · obtain ⟨rfl, rfl⟩ := HL.out.nil_of
    go_enter Try.func22, Try.ntmps22
    go_wp2
    go_ret
    exact ⟨none, 0, rfl, World.ownsRow_nil _ _ _ _, Below.refl _ _⟩
  · go_enter Try.func22, Try.ntmps22
    go_wp2_with (at_builtin; refine wpList_append_list _ rfl (.tmp 5) (.tmp 6) 22 rfl w.heap.size 5 i0 (.int .u8 0) 1 1 Try.underlying22 hi hz0 hz1 hz2 rfl (by decide) (.slice (some ⟨w.heap.size, 0, none⟩) 0 0) 0 [] rfl (World.ownsRow_made w #[] 0 (Nat.le_refl _) (by unfold maxLen; omega) rfl) _ (some a) n c _ rfl (Lst.alloc HL.out _) oneCell_bytes (by unfold maxLen; omega) (by omega) (by simp) ?_)
    intro A3 c3 x3 hown3 hgrow3 hat3
    have HW3 := Lib.hid (((Below.refl w.heap.size w).alloc (Nat.le_refl _) _).grown hgrow3 (by simp) (fun g e => by simp [Value.ownBlock] at e; omega))
    have HO3 := Lib.hid hown3
    clear hown3 hgrow3 hat3
    go_wp2
    go_ret
    exact ⟨A3, c3, by simp, by have := HO3.out; simpa using this, HW3.out⟩
theorem oct_int (v j : Nat) : Value.int .u8 ((v : Int) / 2 ^ (8 * j) % 256) = bv (oct v j) := by
  unfold bv
  rw [oct_nat, show (256 : Nat) ^ j = 2 ^ (8 * j) by rw [Nat.pow_mul]]
  simp
set_option maxHeartbeats 1000000 in
theorem set_any (v : Nat) (g off k n cap c base : Nat) (bs : List UInt8) (w : World) (hO : w.ownsRow base 5 1 (.slice (some ⟨g, 0, none⟩) n cap) n (bs.map bv)) (hfit : off + k ≤ n) (hk : k ≤ 8) (hv : v < 18446744073709551616) (hn : n ≤ 140737488355328) :
    Calls Try.prog 23 #[.slice (some ⟨g, off, none⟩) k c, .int .u64 v] w fun e w' => e = .returned (.tuple #[]) ∧ w'.ownsRow base 5 1 (.slice (some ⟨g, 0, none⟩) n cap) n ((overB bs off (leB v k)).map bv) ∧ Alone w w' g := by
  have HO := Lib.hid hO
  clear hO
  go_enter Try.func23, Try.ntmps23
  go_wp2
  go_loopw [7, 4] (fun i _ wr => ∃ j : Nat, j ≤ k ∧ i = .int .i64 j ∧ Hid (wr.ownsRow base 5 1 (.slice (some ⟨g, 0, none⟩) n cap) n ((overB bs off (leB v j)).map bv)) ∧ Hid (Alone w wr g)) (fun i _ _ => k - (intOf i).toNat)
  case atStart => exact ⟨0, Nat.zero_le _, rfl, by rw [show leB v 0 = [] from rfl, overB_nil]; exact HO, Alone.refl _ _⟩
  case round =>
    obtain ⟨j, hj, rfl, hW, hA⟩ := hrel
    by_cases hlt : j < k
    · have hc := World.ownsRow.cellAt hW.out (off + j) (by omega)
      have hf := World.ownsRow.frozenAt hW.out (off + j)
      obtain ⟨old, hold⟩ : ∃ old, wr.cell? ⟨g, off + j, none⟩ = some old := by
        have hl : ((overB bs off (leB v j)).map bv).length = n * 1 := hW.out.1
        rw [hc]
        exact ⟨_, List.getElem?_eq_getElem (by omega)⟩
      clear hc
      have HV : Hid ((wr.setCell ⟨g, off + j, none⟩ (.int .u8 ((v : Int) / 2 ^ (8 * j) % 256))).ownsRow base 5 1 (.slice (some ⟨g, 0, none⟩) n cap) n ((overB bs off (leB v (j + 1))).map bv)) := by
        have h := (World.ownsRow.stored hW.out (off + j) (bv (oct v j))).1
        have hl : (bs.map bv).length = n * 1 := HO.out.1
        rw [List.map_set.symm, show off + j = off + (leB v j).length from by rw [leB_len], overB_snoc _ _ _ _ (by rw [leB_len]; simp at hl; omega), ← leB_succ, leB_len] at h
        rw [oct_int]
        exact Lib.hid h
      have HA := Lib.hid (hA.out.put (off + j) (.int .u8 ((v : Int) / 2 ^ (8 * j) % 256)))
      go_wp2
      exact ⟨⟨j + 1, by omega, by go_num, HV, HA⟩, by simp [intOf]; omega⟩
    · obtain rfl : j = k := by omega
      go_wp2
      go_end0
      exact ⟨rfl, hW.out, hA.out⟩
end Go.Proofs.Ytjndcehmlegacaa
