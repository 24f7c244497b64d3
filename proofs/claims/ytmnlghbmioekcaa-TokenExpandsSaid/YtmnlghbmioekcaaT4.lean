/- Literals; the page's example. -/
import Derived.Test.YtmnlghbmioekcaaT3
namespace Go.Proofs.Ytmnlghbmioekcaa
open Go.RowKit

/-- The first j bytes as tokens, noughts behind. -/
def litsTo (bs : List UInt8) (j : Nat) : List Tok := (bs.take j).map (fun c => ((c.toNat, 0, 0) : Tok)) ++ List.replicate (bs.length - j) (0, 0, 0)
theorem litsTo_len (bs : List UInt8) (j : Nat) (h : j ≤ bs.length) : (litsTo bs j).length = bs.length := by simp [litsTo]; omega
theorem litsTo_set (bs : List UInt8) (j : Nat) (h : j < bs.length) : (litsTo bs j).set j ((bs.getD j 0).toNat, ((litsTo bs j).getD j (0, 0, 0)).2) = litsTo bs (j + 1) := by
  have hl : ((bs.take j).map (fun c => ((c.toNat, 0, 0) : Tok))).length = j := by simp; omega
  obtain ⟨k, hk⟩ : ∃ k, bs.length - j = k + 1 := ⟨bs.length - j - 1, by omega⟩
  have h1 : litsTo bs j = (bs.take j).map (fun c => ((c.toNat, 0, 0) : Tok)) ++ (0, 0, 0) :: List.replicate k (0, 0, 0) := by rw [litsTo, hk, List.replicate_succ]
  have h2 : ((litsTo bs j).getD j (0, 0, 0)).2 = (0, 0) := by
    rw [h1, List.getD_eq_getElem?_getD, List.getElem?_append_right (by omega), hl, Nat.sub_self]
    rfl
  rw [h2, h1, List.set_append_right _ _ (by omega), hl, Nat.sub_self, List.set_cons_zero, litsTo, List.take_succ_eq_append_getElem h, show bs.length - (j + 1) = k by omega, List.map_append, List.append_assoc, List.getD_eq_getElem?_getD, List.getElem?_eq_getElem h]
  rfl
def Lits (w : World) (n : Nat) (bs : List UInt8) (e : Ending) (w' : World) : Prop :=
  ∃ A' c', e = .returned (.slice A' n c') ∧ Toks w' (fun b => w.heap.size ≤ b) A' n (bs.map fun c => ((c.toNat, 0, 0) : Tok)) ∧ Below w.heap.size w w'
set_option maxHeartbeats 4000000 in
theorem lits_any (A : Option Addr) (n c : Nat) (bs : List UInt8) (S : Nat → Prop) (w : World) (hA : Bs w S A n bs) (hn : n ≤ 1000) : Calls Try.prog 15 #[.slice A n c] w (Lits w n bs) := by
  obtain ⟨i0, hi, hz0, hz1, hz2⟩ := info_parts info31
  have HA := Lib.hid hA
  have HLN := Lib.hid hA.len
  clear hA
  go_enter Try.func15, Try.ntmps15
  go_wp2_with (at_make
               refine wpList_make_full _ rfl _ _ 23 rfl w.heap.size 31 i0 (.agg #[.int .u8 0, .int .i64 0, .int .i64 0]) 3 Try.underlying23 hi hz0 hz1 .i64 .i64 (n : Nat) (n : Nat) n rfl rfl (by simp) (by simp) (by rw [hz2]; omega) (by unfold maxLen; omega) (Nat.le_refl _) ?_
               intro w1 hown hg
               rw [made_toks] at hown
               have HO := Lib.hid hown
               have HB := Lib.hid ((Below.refl w.heap.size w).grown hg (Nat.le_refl _) (fun _ h => by cases h))
               have hgl := (hown.lt w.heap.size rfl).2
               clear hown hg)
  obtain ⟨g, hgg⟩ : ∃ g, w.heap.size = g := ⟨_, rfl⟩
  have HGG := Lib.hid hgg
  go_loopw [11] (fun i wr => ∃ j : Nat, j ≤ n ∧ i = .int .i64 (j : Nat) ∧ Hid (wr.ownsRow w.heap.size 31 3 (.slice (some ⟨w.heap.size, 0, none⟩) n n) n (flatT (litsTo bs j))) ∧ Hid (Below w.heap.size w wr)) (fun i _ => n - (intOf i).toNat)
  case atStart => exact ⟨0, Nat.zero_le _, rfl, Lib.hid (by have := HO.out; rw [litsTo, List.take_zero, Nat.sub_zero, HLN.out]; exact this), HB⟩
  case round =>
    obtain ⟨j, hj, rfl, hO, hB⟩ := hrel
    by_cases hlt : j < n
    · obtain ⟨b, off, rfl, hl, _, hc⟩ := (HA.out.below hB.out).at_ hlt
      obtain ⟨z, hz⟩ : ∃ z : Nat, (bs.getD j 0).toNat = z := ⟨_, rfl⟩
      have hcz : wr.cell? ⟨b, off + j, none⟩ = some (.int .u8 (z : Nat)) := by rw [← hz]; exact hc
      have HZ := Lib.hid hz
      have HS := Lib.hid (litsTo_set bs j (by rw [HLN.out]; exact hlt))
      have q1 := World.ownsRow.frozenAt hO.out (j * 3)
      have hll : (flatT (litsTo bs j)).length = n * 3 := by rw [flatT_len, litsTo_len _ _ (by rw [HLN.out]; omega), HLN.out]
      have q0 : ∃ u, wr.cell? ⟨w.heap.size, j * 3, none⟩ = some u := by
        rw [World.ownsRow.cellAt hO.out (j * 3) (by omega), List.getElem?_eq_getElem (by omega)]
        exact ⟨_, rfl⟩
      obtain ⟨u0, q0⟩ := q0
      clear hc hz hgg
      go_wp2
      have h9 := (World.ownsRow.stored hO.out (j * 3) (.int .u8 (z : Int))).1
      rw [flatT_set, ← HZ.out, HS.out, HZ.out] at h9
      exact ⟨⟨j + 1, by omega, by go_num, h9, hB.out.setCell (p := ⟨w.heap.size, j * 3, none⟩) (Nat.le_refl _) _⟩, by simp [intOf]; omega⟩
    · obtain rfl : j = n := by omega
      have hfin : litsTo bs j = bs.map fun c => ((c.toNat, 0, 0) : Tok) := by rw [litsTo, List.take_of_length_le (by rw [HLN.out]; exact Nat.le_refl _), HLN.out, Nat.sub_self]; simp
      have HT := Lib.hid (show Toks wr (fun b => w.heap.size ≤ b) (some ⟨w.heap.size, 0, none⟩) j (bs.map fun c => ((c.toNat, 0, 0) : Tok)) by rw [← hfin]; exact Lst.of_own hO.out)
      clear hfin hgg
      go_wp2
      go_ret
      exact ⟨_, _, rfl, HT.out, hB.out⟩
theorem str_of {w : World} {S : Nat → Prop} {A : Option Addr} {n : Nat} {bs : List UInt8} (c : Nat) (h : Bs w S A n bs) : (convert 22 9 (.slice A n c)).run Try.prog w = .ok (.string ⟨bs.toArray⟩) w :=
  run_string_bs 22 9 5 c Try.underlying22 Try.underlying5 Try.underlying9 h
theorem awake_any (w : World) : Calls Try.prog 5 #[] w fun e w' => e = .returned (.bool true) ∧ Below w.heap.size w w' := by
  go_enter Try.func5, Try.ntmps5
  go_wp2_with fail
  refine (expand_any none (some ⟨w.heap.size, 0, none⟩) 0 2 0 2 [] [(97, 0, 0), (0, 3, 1)] (fun _ => True) _ _ (Bs.empty _ _ _) (Lst.new w 31 #[.int .u8 97, .int .i64 0, .int .i64 0, .int .u8 0, .int .i64 3, .int .i64 1] 2 rfl rfl) (by omega) (by omega) (by simp)).mono ?_
  rintro e w1 ⟨A', c', k, rfl, hk, hB, hb⟩
  have hb' : Below w.heap.size w w1 := ((Below.refl w.heap.size w).alloc (Nat.le_refl _) _).trans (hb.mono (by simp))
  have k1 := str_of c' hB
  rw [show ((exs [(97, 0, 0), (0, 3, 1)] []).2.drop 0) = [97, 97, 97, 97] by decide] at k1
  rw [show (exs [(97, 0, 0), (0, 3, 1)] []).1 = 0 by decide]
  have HB := Lib.hid hb'
  clear hB hb hb' hk
  go_wp2
  go_ret
  exact ⟨rfl, HB.out⟩
end Go.Proofs.Ytmnlghbmioekcaa
