/- The page's lists of bits: Pack, Bits, Align. -/
import Derived.Test.YthpbiakjkmhfeaaP1
namespace Go.Proofs.Ythpbiakjkmhfeaa
open Go.RowKit

def Packd (w : World) (bs : List Bool) (e : Ending) (w' : World) : Prop :=
  ∃ A' c', e = .returned (.slice A' ((bs.length + 7) / 8) c') ∧ w'.ownsRow w.heap.size 5 1 (.slice A' ((bs.length + 7) / 8) c') ((bs.length + 7) / 8) ((leB (bnum bs) ((bs.length + 7) / 8)).map bv) ∧ Below w.heap.size w w'
theorem pack_byte (bs : List Bool) (j k : Nat) (hj : 8 * j ≤ bs.length) (hk : k ≤ 8) (hkl : 8 ≤ k ∨ bs.length - 8 * j ≤ k) : bnum ((bs.drop (8 * j)).take k) = bnum bs / 256 ^ j % 256 := by
  have h8 : (bs.drop (8 * j)).take k = (bs.drop (8 * j)).take 8 := by
    rcases hkl with h | h
    · rw [show k = 8 by omega]
    · rw [List.take_of_length_le (by rw [List.length_drop]; omega), List.take_of_length_le (by rw [List.length_drop]; omega)]
  rw [h8, bnum_cut _ _ _ hj, Nat.pow_mul]
theorem u8_wrap (y : Nat) (h : y < 256) : IntKind.u8.wrap (y : Int) = (y : Nat) := by rw [IntKind.wrap_u8]; omega
theorem bo_cut {w : World} {S : Nat → Prop} {b off n : Nat} {bs : List Bool} (h : Bo w S (some ⟨b, off, none⟩) n bs) (p k : Nat) (hk : p + k ≤ n) : Bo w S (some ⟨b, off + p, none⟩) k ((bs.drop p).take k) := by
  have hn := h.len
  refine ⟨by simp; omega, fun h0 => ?_⟩
  obtain ⟨b', off', e, hl, hb, hc⟩ := h.2 (by omega)
  injection e with e
  injection e with e1 e2
  subst e1 e2
  refine ⟨b, off + p, rfl, hl, hb, fun i v hi => ?_⟩
  rw [List.map_take, List.map_drop, List.getElem?_take] at hi
  split at hi
  · rw [List.getElem?_drop] at hi
    have := hc (p + i) v hi
    rwa [← Nat.add_assoc] at this
  · cases hi
set_option maxHeartbeats 4000000 in
theorem pack_any (A : Option Addr) (n c : Nat) (bs : List Bool) (S : Nat → Prop) (w : World) (hA : Bo w S A n bs) (hnc : n ≤ c) (hn : n ≤ 1000000) : Calls Try.prog 15 #[.slice A n c] w (Packd w bs) := by
  obtain ⟨i0, hi, hz0, hz1, hz2⟩ := info_parts info5
  have HA := Lib.hid hA
  have HL := Lib.hid hA.len
  clear hA
  unfold Packd
  rw [HL.out]
  obtain ⟨m, hm⟩ : ∃ m, (n + 7) / 8 = m := ⟨_, rfl⟩
  rw [hm]
  have hm1 : 8 * m ≤ n + 7 := by omega
  have hm2 : n ≤ 8 * m := by omega
  clear hm
  go_enter Try.func15, Try.ntmps15
  go_wp2
  go_loopw [3, 4] (fun o i wr => ∃ (j : Nat) (A2 : Option Addr) (c2 : Nat), j ≤ m ∧ i = .int .i64 ((8 * j : Nat) : Int) ∧ o = .slice A2 j c2 ∧ Hid (wr.ownsRow w.heap.size 5 1 (.slice A2 j c2) j ((leB (bnum bs) j).map bv)) ∧ Hid (Below w.heap.size w wr)) (fun _ i _ => (8 * m : Nat) - (intOf i).toNat)
  case atStart => exact ⟨0, none, 0, Nat.zero_le _, rfl, rfl, World.ownsRow_nil _ _ _ _, Below.refl _ _⟩
  case round =>
    obtain ⟨j, A2, c2, hj, rfl, rfl, hO, hB⟩ := hrel
    by_cases hlt : j < m
    · have hjn : 8 * j < n := by omega
      obtain ⟨p, hp⟩ : ∃ p, 8 * j = p := ⟨_, rfl⟩
      obtain ⟨e, he⟩ : ∃ e, min (p + 8) n = e := ⟨_, rfl⟩
      obtain ⟨k, hk⟩ : ∃ k, e - p = k := ⟨_, rfl⟩
      have he' : (if (n : Int) < (p : Int) + 8 then (n : Int) else (p : Int) + 8) = (e : Nat) := by rw [← he]; split <;> omega
      have hk' : (e : Int) - (p : Int) = (k : Nat) := by omega
      have hk8 : k ≤ 8 := by omega
      rw [hp]
      have i1 : (p : Int) < (n : Int) := by omega
      have i2 : (e : Int) ≤ (c : Int) := by omega
      have i3 : (p : Int) ≤ (e : Int) := by omega
      have hcp : ¬ c = p := by omega
      have hcp' : ¬ p = c := by omega
      obtain ⟨b, off, rfl, _, _, _⟩ := HA.out.at_ (show 0 < n by omega)
      have hnum := number_any (some ⟨b, off + p, none⟩) k (c - p) ((bs.drop p).take k) _ wr (bo_cut (Lst.below HA.out hB.out) p k (by omega)) (by omega)
      have hpb : bnum ((bs.drop p).take k) = bnum bs / 256 ^ j % 256 := by rw [← hp]; exact pack_byte bs j k (by rw [HL.out]; omega) hk8 (by rw [HL.out]; omega)
      rw [hpb] at hnum
      clear hcp' hcp
      have hcp : ¬ c = p := by omega
      obtain ⟨y, hy⟩ : ∃ y, bnum bs / 256 ^ j % 256 = y := ⟨_, rfl⟩
      rw [hy] at hnum
      have hy256 : y < 256 := by omega
      have W1 := u8_wrap y hy256
      have HN := Lib.hid hnum
      have HP := Lib.hid hp
      have HY : Hid (bv (oct (bnum bs) j) = .int .u8 (y : Int)) := Lib.hid (by
        show Value.int .u8 ((oct (bnum bs) j).toNat : Int) = _
        rw [oct_nat, hy])
      clear hp he hpb hy hnum
      go_wp2_with fail
      clear hk
      refine HN.out.mono ?_
      rintro e2 w2 ⟨rfl, rfl⟩
      go_wp2_with (at_builtin; refine wpList_append_list _ rfl (.tmp 11) (.tmp 22) 27 rfl w.heap.size 5 i0 (.int .u8 0) 1 1 Try.underlying27 hi hz0 hz1 hz2 rfl (by decide) (.slice A2 j c2) j _ rfl (hO.out.alloc _) _ (some ⟨wr.heap.size, 0, none⟩) 1 1 [.int .u8 (y : Int)] rfl (Lst.new wr 5 #[.int .u8 (y : Int)] 1 rfl rfl) (by simp [Value.oneCell']) (by unfold maxLen; omega) (by omega) (by have := hB.out.size; simp; omega) ?_)
      intro A3 c3 x3 hown3 hgrow3 hat3
      have HO3 : Hid (x3.ownsRow w.heap.size 5 1 (.slice A3 (j + 1) c3) (j + 1) ((leB (bnum bs) (j + 1)).map bv)) := by
        rw [leB_succ, List.map_append, List.map_singleton, HY.out]
        exact Lib.hid hown3
      have HW3 := Lib.hid ((hB.out.alloc hB.out.size _).grown hgrow3 (by have := hB.out.size; simp; omega) (fun g e => (hO.out.lt g e).1))
      clear hown3 hgrow3 hat3
      go_wp2
      exact ⟨⟨j + 1, A3, c3, by omega, by have := HP.out; go_num, rfl, HO3, HW3⟩, by have := HP.out; simp [intOf]; omega⟩
    · obtain rfl : j = m := by omega
      have i1 : decide (((8 * j : Nat) : Int) < (n : Int)) = false := by simp; omega
      obtain ⟨p, hp⟩ : ∃ p, 8 * j = p := ⟨_, rfl⟩
      rw [hp] at i1 ⊢
      have i1n : ¬ p < n := by omega
      clear hp i1
      go_wp2
      go_ret
      exact ⟨A2, c2, rfl, hO.out, hB.out⟩
end Go.Proofs.Ythpbiakjkmhfeaa
