/- Octets: Append, and the page's Bytes. -/
import Derived.Test.YtdmglpnieiiigaaDoorChecked
import Derived.Test.YtdmglpnieiiigaaDoorRows
import Derived.Test.YtdmglpnieiiigaaDoorOver
import Derived.Test.YtdmglpnieiiigaaDoorBytes
import Derived.Test.YtdmglpnieiiigaaDoorBits
import Derived.Test.YtdmglpnieiiigaaDoorBlk
import Derived.Test.YtdmglpnieiiigaaDoorFill
import Derived.Test.YtdmglpnieiiigaaDoorSoft
import Derived.Test.YtdmglpnieiiigaaDoorShapes
import Derived.WalkSpells
import Derived.WalkLawsBesides
import Derived.Lib.Hide
import Derived.Lib.ItoaNum
import Derived.Lib.SliceRun
import Derived.LoopTactic
import Derived.OwnWalk
import Derived.Deep.QuietTactic
import Derived.BigQuiet
import Derived.Deep.RegionLaw
import Derived.StillTailTactics
namespace Go.Proofs.YtdmglpnieiiigaaDoor
open Go.RowKit

def rightW (k : Int) : Bool := decide (1 ≤ k ∧ k ≤ 8)
theorem right_any (k : Int) (w : World) : Calls Tryd.prog 47 #[.int .i64 k] w fun e w' => e = .returned (.bool (rightW k)) ∧ w = w' := by
  have e : rightW k = (decide (1 ≤ k) && decide (k ≤ 8)) := by unfold rightW; rw [Bool.decide_and]
  rw [e]
  by_cases h : 1 ≤ k
  · go_enter Tryd.func47, Tryd.ntmps47
    go_wp2
    go_ret
    exact ⟨by simp [h], rfl⟩
  · have h' : k < 1 := by omega
    go_enter Tryd.func47, Tryd.ntmps47
    go_wp2
    go_ret
    exact ⟨by simp; omega, rfl⟩
theorem info5 : (Tryd.prog.info? 5).map (fun i => (i.zero, i.size, i.bytes)) = some (some (.int .u8 0), 1, 1) := by kernel_rfl
set_option maxRecDepth 100000 in
set_option maxHeartbeats 400000 in
theorem clone_any (A : Option Addr) (n c : Nat) (bs : List UInt8) (S : Nat → Prop) (w : World) (hL : Bs w S A n bs) (hn : n ≤ 140737488355328) :
    Calls Tryd.prog 33 #[.slice A n c] w fun e w' => ∃ A' c', e = .returned (.slice A' n c') ∧ w'.ownsRow w.heap.size 5 1 (.slice A' n c') n (bs.map bv) ∧ Below w.heap.size w w' := by
  obtain ⟨i0, hi, hz0, hz1, hz2⟩ := info_parts info5
  have HL := Lib.hid hL
  clear hL
  have eq := fun (w : World) => Lib.run_eql_slice_nil (P := Tryd.prog) w 33 5 A n c 0 0 Tryd.underlying33
  rcases A with _ | a
  · obtain ⟨rfl, rfl⟩ := HL.out.nil_of
    go_enter Tryd.func33, Tryd.ntmps33
    go_wp2
    go_ret
    exact ⟨none, 0, rfl, World.ownsRow_nil _ _ _ _, Below.refl _ _⟩
  · go_enter Tryd.func33, Tryd.ntmps33
    go_wp2_with (at_builtin; refine wpList_append_list _ rfl (.tmp 5) (.tmp 6) 33 rfl w.heap.size 5 i0 (.int .u8 0) 1 1 Tryd.underlying33 hi hz0 hz1 hz2 rfl (by decide) (.slice (some ⟨w.heap.size, 0, none⟩) 0 0) 0 [] rfl (World.ownsRow_made w #[] 0 (Nat.le_refl _) (by unfold maxLen; omega) rfl) _ (some a) n c _ rfl (Lst.alloc HL.out _) oneCell_bytes (by unfold maxLen; omega) (by omega) (by simp) ?_)
    intro A3 c3 x3 hown3 hgrow3 hat3
    have HW3 := Lib.hid (((Below.refl w.heap.size w).alloc (Nat.le_refl _) _).grown hgrow3 (by simp) (fun g e => by simp [Value.ownBlock] at e; omega))
    have HO3 := Lib.hid hown3
    clear hown3 hgrow3 hat3
    go_wp2
    go_ret
    exact ⟨A3, c3, by simp, by have := HO3.out; simpa using this, HW3.out⟩
theorem oct_int (v j : Nat) : Value.int .u8 ((v : Int) / 2 ^ (8 * j) % 256) = bv (oct v j) := by
  unfold bv
  rw [oct_nat, show (256 : Nat) ^ j = 2 ^ (8 * j) by rw [Nat.pow_mul]]
  simp
set_option maxRecDepth 100000 in
set_option maxHeartbeats 1000000 in
theorem set_any (v : Nat) (g off k n cap c base : Nat) (bs : List UInt8) (w : World) (hO : w.ownsRow base 5 1 (.slice (some ⟨g, 0, none⟩) n cap) n (bs.map bv)) (hfit : off + k ≤ n) (hk : k ≤ 8) (_hv : v < 18446744073709551616) (_hn : n ≤ 140737488355328) :
    Calls Tryd.prog 48 #[.slice (some ⟨g, off, none⟩) k c, .int .u64 v] w fun e w' => e = .returned (.tuple #[]) ∧ w'.ownsRow base 5 1 (.slice (some ⟨g, 0, none⟩) n cap) n ((overB bs off (leB v k)).map bv) ∧ Alone w w' g := by
  have HO := Lib.hid hO
  clear hO
  go_enter Tryd.func48, Tryd.ntmps48
  go_wp2
  go_loopw [7, 4] (fun i _ wr => ∃ j : Nat, j ≤ k ∧ i = .int .i64 j ∧ Hid (wr.ownsRow base 5 1 (.slice (some ⟨g, 0, none⟩) n cap) n ((overB bs off (leB v j)).map bv)) ∧ Hid (Alone w wr g)) (fun i _ _ => k - (intOf i).toNat)
  case atStart => exact ⟨0, Nat.zero_le _, rfl, by rw [show leB v 0 = [] from rfl, overB_nil]; exact HO, Alone.refl _ _⟩
  case round =>
    obtain ⟨j, hj, rfl, hW, hA⟩ := hrel
    by_cases hlt : j < k
    · have hc := World.ownsRow.cellAt hW.out (off + j) (by omega)
      have hf := World.ownsRow.frozenAt hW.out (off + j)
      obtain ⟨old, hold⟩ : ∃ old, wr.cell? ⟨g, off + j, none⟩ = some old := by
        have hl : ((overB bs off (leB v j)).map bv).length = n * 1 := hW.out.1
        rw [hc]
        exact ⟨_, List.getElem?_eq_getElem (by omega)⟩
      clear hc
      have HV : Hid ((wr.setCell ⟨g, off + j, none⟩ (.int .u8 ((v : Int) / 2 ^ (8 * j) % 256))).ownsRow base 5 1 (.slice (some ⟨g, 0, none⟩) n cap) n ((overB bs off (leB v (j + 1))).map bv)) := by
        have h := (World.ownsRow.stored hW.out (off + j) (bv (oct v j))).1
        have hl : (bs.map bv).length = n * 1 := HO.out.1
        rw [List.map_set.symm, show off + j = off + (leB v j).length from by rw [leB_len], overB_snoc _ _ _ _ (by rw [leB_len]; simp at hl; omega), ← leB_succ, leB_len] at h
        rw [oct_int]
        exact Lib.hid h
      have HA := Lib.hid (hA.out.put (off + j) (.int .u8 ((v : Int) / 2 ^ (8 * j) % 256)))
      go_wp2
      exact ⟨⟨j + 1, by omega, by go_num, HV, HA⟩, by simp [intOf]; omega⟩
    · obtain rfl : j = k := by omega
      go_wp2
      go_end0
      exact ⟨rfl, hW.out, hA.out⟩
theorem info_size5 : (Tryd.prog.info? 5).map (·.size) = some 1 := by kernel_rfl
set_option maxRecDepth 100000 in
set_option maxHeartbeats 1000000 in
theorem append_right (A : Option Addr) (n c : Nat) (bs : List UInt8) (S : Nat → Prop) (k : Nat) (v : Nat) (w : World) (hB : Bs w S A n bs) (hn : n ≤ 70368744177664) (hk1 : 1 ≤ k) (hk2 : k ≤ 8) (hv : v < 18446744073709551616) :
    Calls Tryd.prog 21 #[.slice A n c, .int .i64 k, .int .u64 v] w fun e w' => ∃ A' c', e = .returned (.slice A' (n + k) c') ∧ w'.ownsRow w.heap.size 5 1 (.slice A' (n + k) c') (n + k) ((bs ++ leB v k).map bv) ∧ Below w.heap.size w w' := by
  obtain ⟨i0, hi, hz0, hz1, hz2⟩ := info_parts info5
  have HR : Hid (rightW k = true) := Lib.hid (by unfold rightW; simp; omega)
  have hlen := hB.len
  have HB := Lib.hid hB
  clear hB
  go_enter Tryd.func21, Tryd.ntmps21
  go_wp2_with fail
  refine (right_any _ _).mono ?_
  rw [HR.out]
  rintro e w1 ⟨rfl, rfl⟩
  go_wp2_with (first
    | (at_make
       refine wpList_make_full _ rfl _ _ 33 rfl w.heap.size 5 i0 (.int .u8 0) 1 Tryd.underlying33 hi hz0 hz1 .i64 .i64 (n + k : Nat) (n + k : Nat) (n + k) rfl rfl (by simp) (by simp) (by rw [hz2]; omega) (by unfold maxLen; omega) (Nat.le_refl _) ?_
       intro w1 hown hg
       rw [toList_made_int, zeros_bv] at hown
       have HH := Lib.hid (own_heap hown)
       have HB1 := Lib.hid ((Below.refl w.heap.size w).grown hg (Nat.le_refl _) (fun _ h => by cases h))
       have HS1 := Lib.hid ((HB.out.below HB1.out).src)
       clear hown hg)
    | (with_reducible refine wpList_copy_splice rfl (.tmp 18) (.tmp 19) 33 33 rfl 5 Tryd.underlying33 info_size5 (some ⟨w.heap.size, 0, none⟩) A (n + k) (n + k) n c rfl rfl w.heap.size 0 ((List.replicate (n + k) (0 : UInt8)).map bv) 5 HH.out (bs.map bv) (by rw [List.length_map, hlen]; exact (Nat.min_eq_left (by omega)).symm) (fun h => ⟨rfl, HS1.out h⟩) (by simp; omega) oneCell_bytes w.heap.size w HB1.out (Nat.le_refl _) ?_
       intro w2 hh2 hb2
       have HB2 := Lib.hid hb2
       clear hb2 HB1 HS1))
  have e0 : splice ((List.replicate (n + k) (0 : UInt8)).map bv) 0 (bs.map bv) = (bs ++ List.replicate k (0 : UInt8)).map bv := by
    subst hlen
    simp [splice]
  have h2 := hh2.out
  rw [e0] at h2
  have HO2 := Lib.hid (own_of_heap (base := w.heap.size) h2 (n := n + k) (by simp; omega) (Nat.le_refl _) (by unfold maxLen; omega))
  clear h2 hh2 e0
  have r1 : (n : Int) < n + k := by omega
  have r2 : n + k ≠ n := by omega
  go_wp2_with fail
  refine (set_any v w.heap.size n k (n + k) (n + k) k w.heap.size (bs ++ List.replicate k (0 : UInt8)) w2 HO2.out (Nat.le_refl _) hk2 hv (by omega)).mono ?_
  rintro e w3 ⟨rfl, ho3, ha3⟩
  have HO3 : Hid (w3.ownsRow w.heap.size 5 1 (.slice (some ⟨w.heap.size, 0, none⟩) (n + k) (n + k)) (n + k) ((bs ++ leB v k).map bv)) := by
    have e : overB (bs ++ List.replicate k (0 : UInt8)) n (leB v k) = bs ++ leB v k := by
      subst hlen
      exact overB_end _ _ _ (by simp [leB_len])
    rw [e] at ho3
    exact Lib.hid ho3
  have HB3 := Lib.hid (ha3.below HB2.out (Nat.le_refl _) HB2.out.size)
  clear ho3 ha3 HO2 HB2
  go_wp2
  go_ret
  exact ⟨_, _, rfl, HO3.out, HB3.out⟩
theorem one_u8 {c : Int} : ∀ u ∈ [Value.int .u8 c], u.oneCell' = true := by
  intro u hu
  simp at hu
  subst hu
  rfl
theorem rem_oct (v k : Nat) {x : Nat} (h : (v / 256 ^ k : Nat) = x) : Value.int .u8 ((x : Int) % 256) = bv (oct v k) := by
  subst h
  unfold bv
  rw [oct_nat]
  rfl
set_option maxRecDepth 100000 in
set_option maxHeartbeats 1000000 in
theorem rbytes_any (v k : Nat) (w : World) (hv : v < 18446744073709551616) (hk : k ≤ 8) :
    Calls Tryd.prog 51 #[.int .u64 v, .int .i64 k] w fun e w' => ∃ A c, e = .returned (.slice A k c) ∧ w'.ownsRow w.heap.size 5 1 (.slice A k c) k ((leB v k).map bv) ∧ Below w.heap.size w w' := by
  obtain ⟨i0, hi, hz0, hz1, hz2⟩ := info_parts info5
  go_enter Tryd.func51, Tryd.ntmps51
  go_wp2
  go_loopw [0, 5, 6] (fun x o i wr => ∃ (j : Nat) (A : Option Addr) (c y : Nat), j ≤ k ∧ i = .int .i64 j ∧ x = .int .u64 y ∧ Hid (v / 256 ^ j = y) ∧ y < 18446744073709551616 ∧ o = .slice A j c ∧ Hid (wr.ownsRow w.heap.size 5 1 (.slice A j c) j ((leB v j).map bv)) ∧ Hid (Below w.heap.size w wr)) (fun _ _ i _ => k - (intOf i).toNat)
  case atStart => exact ⟨0, none, 0, v, Nat.zero_le _, rfl, rfl, by show v / 256 ^ 0 = v; simp, hv, rfl, World.ownsRow_nil _ _ _ _, Below.refl _ _⟩
  case round =>
    obtain ⟨j, A, c, y, hj, rfl, rfl, hy, hyl, rfl, hO, hB⟩ := hrel
    by_cases hlt : j < k
    · have HV := Lib.hid (rem_oct v j hy.out)
      have HY : Hid (v / 256 ^ (j + 1) = y / 256) := Lib.hid (by rw [← hy.out, Nat.pow_succ, Nat.div_div_eq_div_mul])
      go_wp2_with (at_builtin; refine wpList_append_list _ rfl (.tmp 12) (.tmp 16) 33 rfl w.heap.size 5 i0 (.int .u8 0) 1 1 Tryd.underlying33 hi hz0 hz1 hz2 rfl (by decide) _ j _ rfl (hO.out.alloc _) _ (some ⟨wr.heap.size, 0, none⟩) 1 1 [.int .u8 ((y : Int) % 256)] rfl (Lst.new wr 5 #[.int .u8 ((y : Int) % 256)] 1 rfl rfl) one_u8 (by unfold maxLen; omega) (by omega) (by have := hB.out.size; simp; omega) ?_)
      intro A3 c3 x3 hown3 hgrow3 hat3
      have HO3 : Hid (x3.ownsRow w.heap.size 5 1 (.slice A3 (j + 1) c3) (j + 1) ((leB v (j + 1)).map bv)) := by
        rw [leB_succ, List.map_append, List.map_singleton, ← HV.out]
        exact Lib.hid hown3
      have HW3 := Lib.hid ((hB.out.alloc hB.out.size _).grown hgrow3 (by have := hB.out.size; simp; omega) (fun g e => (hO.out.lt g e).1))
      clear hown3 hgrow3 hat3 HV
      go_wp2
      exact ⟨⟨j + 1, A3, c3, y / 256, by omega, by go_num, by simp, HY, by omega, rfl, HO3, HW3⟩, by simp [intOf]; omega⟩
    · obtain rfl : j = k := by omega
      go_wp2
      go_ret
      exact ⟨A, c, rfl, hO.out, hB.out⟩
theorem str_of {w : World} {S : Nat → Prop} {A : Option Addr} {n : Nat} {bs : List UInt8} (c : Nat) (h : Bs w S A n bs) : (convert 33 9 (.slice A n c)).run Tryd.prog w = .ok (.string ⟨bs.toArray⟩) w :=
  run_string_bs 33 9 5 c Tryd.underlying33 Tryd.underlying5 Tryd.underlying9 h
end Go.Proofs.YtdmglpnieiiigaaDoor
