/- The page's Align and Bits; the writer's Bytes, Len, Clone. -/
import Derived.Test.YthpbiakjkmhfeaaP2
namespace Go.Proofs.Ythpbiakjkmhfeaa
open Go.RowKit

theorem own_nothing (w : World) (e : TypeId) (sz : Nat) {B : Nat} (hB : B ≤ w.heap.size) : (w.alloc (.cells #[] e)).ownsRow B e sz (.slice (some ⟨w.heap.size, 0, none⟩) 0 0) 0 [] :=
  ⟨by simp, .inr ⟨w.heap.size, 0, #[], rfl, hB, heap_alloc_new w _, Nat.le_refl _, by unfold maxLen; omega, by simp, by simp⟩⟩
set_option maxHeartbeats 2000000 in
theorem ralign_any (A : Option Addr) (n c : Nat) (bs : List Bool) (S : Nat → Prop) (w : World) (hA : Bo w S A n bs) (hn : n ≤ 1000000) : Calls Try.prog 10 #[.slice A n c] w (Rput w (n + (8 - n % 8) % 8) (bs ++ List.replicate ((8 - n % 8) % 8) false)) := by
  obtain ⟨i0, hi, hz0, hz1, hz2⟩ := info_parts info4
  have HA := Lib.hid hA
  clear hA
  obtain ⟨r, hr⟩ : ∃ r, (8 - n % 8) % 8 = r := ⟨_, rfl⟩
  rw [hr]
  have HR := Lib.hid hr
  have hr8 : r < 8 := by omega
  clear hr
  go_enter Try.func10, Try.ntmps10
  go_wp2_with (at_builtin; refine wpList_append_list _ rfl (.tmp 4) (.tmp 5) 26 rfl w.heap.size 4 i0 (.bool false) 1 1 Try.underlying26 hi hz0 hz1 hz2 rfl (by decide) (.slice (some ⟨w.heap.size, 0, none⟩) 0 0) 0 [] rfl (own_nothing w 4 1 (Nat.le_refl _)) _ A n c _ rfl (Lst.alloc HA.out _) oneCell_bools (by unfold maxLen; omega) (by omega) (by simp) ?_)
  intro A3 c3 x3 hown3 hgrow3 hat3
  have HW3 := Lib.hid (((Below.refl w.heap.size w).alloc (Nat.le_refl _) (.cells #[] 4)).grown hgrow3 (by simp) (fun g e => by simp [Value.ownBlock] at e; omega))
  have HO3 : Hid (x3.ownsRow w.heap.size 4 1 (.slice A3 n c3) n (bs.map bo)) := Lib.hid (by simpa using hown3)
  clear hown3 hgrow3 hat3
  go_wp2
  go_loopw [3] (fun o wr => ∃ (k M : Nat) (A2 : Option Addr) (c2 : Nat), k ≤ r ∧ o = .slice A2 M c2 ∧ M = n + k ∧ Hid (wr.ownsRow w.heap.size 4 1 (.slice A2 M c2) M ((bs ++ List.replicate k false).map bo)) ∧ Hid (Below w.heap.size w wr)) (fun o _ => match o with | .slice _ m _ => n + r - m | _ => 0)
  case atStart => exact ⟨0, n, A3, c3, Nat.zero_le _, rfl, rfl, Lib.hid (by simpa using HO3.out), HW3⟩
  case round =>
    obtain ⟨k, M, A2, c2, hk, rfl, hM, hO, hB⟩ := hrel
    obtain ⟨q, hq⟩ : ∃ q, M % 8 = q := ⟨_, rfl⟩
    have hq' : (M : Int) % 8 = (q : Nat) := by omega
    have hMb : M ≤ 1000008 := by omega
    by_cases hlt : k < r
    · have e1 : ((q : Int) != 0) = true := by simp; have := HR.out; omega
      have HQ := Lib.hid hq
      have HM := Lib.hid hM
      clear hq hM
      go_wp2_with (at_builtin; refine wpList_append_list _ rfl (.tmp 11) (.tmp 12) 26 rfl w.heap.size 4 i0 (.bool false) 1 1 Try.underlying26 hi hz0 hz1 hz2 rfl (by decide) (.slice A2 M c2) M _ rfl (hO.out.alloc _) _ (some ⟨wr.heap.size, 0, none⟩) 1 1 [.bool false] rfl (Lst.new wr 4 #[.bool false] 1 rfl rfl) (by simp [Value.oneCell']) (by unfold maxLen; omega) (by omega) (by have := hB.out.size; simp; omega) ?_)
      intro A4 c4 x4 hown4 hgrow4 hat4
      have HO4 : Hid (x4.ownsRow w.heap.size 4 1 (.slice A4 (M + 1) c4) (M + 1) ((bs ++ List.replicate (k + 1) false).map bo)) := by
        rw [List.replicate_succ', List.map_append, List.map_append, List.map_replicate]
        exact Lib.hid hown4
      have HW4 := Lib.hid ((hB.out.alloc hB.out.size _).grown hgrow4 (by have := hB.out.size; simp; omega) (fun g e => (hO.out.lt g e).1))
      clear hown4 hgrow4 hat4
      go_wp2
      exact ⟨⟨k + 1, M + 1, A4, c4, by omega, rfl, by have := HM.out; omega, HO4, HW4⟩, by have := HM.out; simp; omega⟩
    · obtain rfl : k = r := by omega
      have e1 : ((q : Int) != 0) = false := by simp; have := HR.out; omega
      subst hM
      clear hq
      go_wp2
      go_ret
      exact ⟨A2, c2, rfl, hO.out, hB.out⟩
def bitsB (bs : List UInt8) : List Bool := bs.flatMap fun c => bitsOf c.toNat 8
theorem bitsB_len (bs : List UInt8) : (bitsB bs).length = 8 * bs.length := by
  induction bs with
  | nil => rfl
  | cons c bs ih =>
    show (bitsOf c.toNat 8 ++ bitsB bs).length = _
    rw [List.length_append, bitsOf_len, ih, List.length_cons]
    omega
theorem bnum_bitsB (bs : List UInt8) : bnum (bitsB bs) = num bs := by
  induction bs with
  | nil => rfl
  | cons c bs ih =>
    show bnum (bitsOf c.toNat 8 ++ bitsB bs) = _
    rw [bnum_append, bitsOf_len, ih, bnum_bits, num, Nat.mod_eq_of_lt c.toNat_lt]
theorem bitsB_snoc (bs : List UInt8) (j : Nat) (h : j < bs.length) : bitsB (bs.take (j + 1)) = bitsB (bs.take j) ++ bitsOf (bs.getD j 0).toNat 8 := by
  rw [List.take_succ_eq_append_getElem h, bitsB, List.flatMap_append, List.getD_eq_getElem?_getD, List.getElem?_eq_getElem h]
  simp [bitsB]
set_option maxHeartbeats 4000000 in
theorem bitsof_any (A : Option Addr) (n c : Nat) (bs : List UInt8) (S : Nat → Prop) (w : World) (hA : Bs w S A n bs) (hn : n ≤ 1000) : Calls Try.prog 13 #[.slice A n c] w (Rput w (8 * n) (bitsB bs)) := by
  obtain ⟨i0, hi, hz0, hz1, hz2⟩ := info_parts info4
  have HA := Lib.hid hA
  have HL := Lib.hid hA.len
  clear hA
  go_enter Try.func13, Try.ntmps13
  go_wp2
  go_loopw [3, 4] (fun o i wr => ∃ (j M : Nat) (A2 : Option Addr) (c2 : Nat), j ≤ n ∧ i = .int .i64 (j : Nat) ∧ o = .slice A2 M c2 ∧ M = 8 * j ∧ Hid (wr.ownsRow w.heap.size 4 1 (.slice A2 M c2) M ((bitsB (bs.take j)).map bo)) ∧ Hid (Below w.heap.size w wr)) (fun _ i _ => n - (intOf i).toNat)
  case atStart => exact ⟨0, 0, none, 0, Nat.zero_le _, rfl, rfl, rfl, World.ownsRow_nil _ _ _ _, Below.refl _ _⟩
  case round =>
    obtain ⟨j, M, A2, c2, hj, rfl, rfl, hM, hO, hB⟩ := hrel
    by_cases hlt : j < n
    · obtain ⟨b, off, rfl, _, _, hc⟩ := (HA.out.below hB.out).at_ hlt
      obtain ⟨z, hz⟩ : ∃ z : Nat, (bs.getD j 0).toNat = z := ⟨_, rfl⟩
      have hcz : wr.cell? ⟨b, off + j, none⟩ = some (.int .u8 (z : Nat)) := by rw [← hz]; exact hc
      have hz256 : z < 256 := by rw [← hz]; exact (bs.getD j 0).toNat_lt
      have HS : Hid (bitsB (bs.take (j + 1)) = bitsB (bs.take j) ++ bitsOf z 8) := Lib.hid (by rw [← hz]; exact bitsB_snoc bs j (by rw [HL.out]; exact hlt))
      have hMb : M ≤ 8000 := by omega
      have HM := Lib.hid hM
      clear hc hz hM
      go_wp2
      go_loopw [3, 5, 6] (fun o x i wi => ∃ (k y : Nat) (A5 : Option Addr) (c5 : Nat), k ≤ 8 ∧ i = .int .i64 (k : Nat) ∧ x = .int .u8 (y : Nat) ∧ Hid (z / 2 ^ k = y) ∧ y < 256 ∧ o = .slice A5 (M + k) c5 ∧ Hid (wi.ownsRow w.heap.size 4 1 (.slice A5 (M + k) c5) (M + k) ((bitsB (bs.take j) ++ bitsOf z k).map bo)) ∧ Hid (Below w.heap.size w wi)) (fun _ _ i _ => 8 - (intOf i).toNat)
      case atStart => exact ⟨0, z, A2, c2, Nat.zero_le _, rfl, rfl, Lib.hid (by simp), hz256, rfl, Lib.hid (by simpa [bitsOf] using hO.out), hB⟩
      case round =>
        obtain ⟨k, y, A5, c5, hk, rfl, rfl, hy, hyb, rfl, hO5, hB5⟩ := hrel
        by_cases hk8 : k < 8
        · have e1 : decide ((k : Int) < 8) = true := by simp; omega
          obtain ⟨q, hq⟩ : ∃ q, decide (y % 2 = 1) = q := ⟨_, rfl⟩
          have hb1 : ((y : Int) % 2 == 1) = q := by
            rw [← hq]
            by_cases h : y % 2 = 1
            · simp [h]; omega
            · simp [h]; omega
          have HV : Hid (bitsOf z (k + 1) = bitsOf z k ++ [q]) := Lib.hid (by rw [bitsOf_succ, hy.out, hq])
          have HY : Hid (z / 2 ^ (k + 1) = y / 2) := Lib.hid (by rw [← hy.out, Nat.pow_succ, Nat.div_div_eq_div_mul])
          obtain ⟨P, hP⟩ : ∃ P, M + k = P := ⟨_, rfl⟩
          rw [hP] at hO5 ⊢
          have hPb : P ≤ 8008 := by omega
          have HP := Lib.hid hP
          clear hq hy hP
          go_wp2_with (at_builtin; refine wpList_append_list _ rfl (.tmp 21) (.tmp 25) 26 rfl w.heap.size 4 i0 (.bool false) 1 1 Try.underlying26 hi hz0 hz1 hz2 rfl (by decide) (.slice A5 P c5) P _ rfl (hO5.out.alloc _) _ (some ⟨wr.heap.size, 0, none⟩) 1 1 [.bool q] rfl (Lst.new wr 4 #[.bool q] 1 rfl rfl) (by simp [Value.oneCell']) (by unfold maxLen; omega) (by omega) (by have := hB5.out.size; simp; omega) ?_)
          intro A6 c6 x6 hown6 hgrow6 hat6
          have HO6 : Hid (x6.ownsRow w.heap.size 4 1 (.slice A6 (M + (k + 1)) c6) (M + (k + 1)) ((bitsB (bs.take j) ++ bitsOf z (k + 1)).map bo)) := by
            rw [HV.out, List.map_append, List.map_append, List.map_singleton, show M + (k + 1) = P + 1 by have := HP.out; omega]
            exact Lib.hid hown6
          have HW6 := Lib.hid ((hB5.out.alloc hB5.out.size _).grown hgrow6 (by have := hB5.out.size; simp; omega) (fun g e => (hO5.out.lt g e).1))
          clear hown6 hgrow6 hat6 HV
          go_wp2
          exact ⟨⟨k + 1, y / 2, A6, c6, by omega, by go_num, by simp, HY, by omega, by rw [show M + (k + 1) = P + 1 by have := HP.out; omega], HO6, HW6⟩, by simp [intOf]; omega⟩
        · obtain rfl : k = 8 := by omega
          go_wp2
          exact ⟨⟨j + 1, M + 8, A5, c5, by omega, by go_num, rfl, by have := HM.out; omega, (by rw [HS.out]; exact hO5), hB5⟩, by simp [intOf]; omega⟩
    · obtain rfl : j = n := by omega
      subst hM
      have HF := Lib.hid hO.out
      rw [List.take_of_length_le (by rw [HL.out]; exact Nat.le_refl _)] at HF
      go_wp2
      go_ret
      exact ⟨A2, c2, rfl, HF.out, hB.out⟩
end Go.Proofs.Ythpbiakjkmhfeaa
