/- The writer's Bytes, Len, Clone. -/
import Derived.Test.YthpbiakjkmhfeaaP3
namespace Go.Proofs.Ythpbiakjkmhfeaa
open Go.RowKit

theorem len_any (base g : Nat) (A : Option Addr) (c : Nat) (D : List UInt8) (L N : Nat) (w : World) (hW : Wr w base g A c D L N) : Calls Try.prog 17 #[.pointer (some ⟨g, 0, none⟩)] w fun e w' => e = .returned (.int .i64 (N : Nat)) ∧ w = w' := by
  have c2 := hW.2.1.cell 2
  clear hW
  go_enter Try.func17, Try.ntmps17
  go_wp2
  go_ret
  exact ⟨rfl, rfl⟩
set_option maxHeartbeats 2000000 in
theorem bytes_any (base g : Nat) (A : Option Addr) (c : Nat) (D : List UInt8) (L N : Nat) (B : Option Addr) (m d : Nat) (bs : List UInt8) (S : Nat → Prop) (w : World) (hW : Wr w base g A c D L N) (hB : Bs w S B m bs) (hS : ∀ b, S b → ¬ Its g A b) (hN : N ≤ 1000000000) (hD : D.length ≤ 1000000000) (hm : m ≤ 1000000) (hb : base ≤ g) (hbs : base ≤ w.heap.size) :
    Calls Try.prog 12 #[.pointer (some ⟨g, 0, none⟩), .slice B m d] w (Put w base g A (D ++ leB L ((N % 8 + 7) / 8) ++ bs) 0 ((N + 7) / 8 * 8 + 8 * m) (.tuple #[])) := by
  obtain ⟨i0, hi, hz0, hz1, hz2⟩ := info_parts info5
  have hal := align_any base g A c D L N w hW (by omega) (by omega) hb
  have HBL := Lib.hid hB.len
  have HB := Lib.hid hB
  obtain ⟨D1, hD1⟩ : ∃ D1, D ++ leB L ((N % 8 + 7) / 8) = D1 := ⟨_, rfl⟩
  obtain ⟨M, hM⟩ : ∃ M, (N + 7) / 8 * 8 = M := ⟨_, rfl⟩
  have hMb : M ≤ 1000000008 := by omega
  have hM8 : M % 8 = 0 := by omega
  have hDl : D1.length ≤ 1000000002 := by rw [← hD1, List.length_append, leB_len]; omega
  rw [hD1, hM] at hal ⊢
  have HAL := Lib.hid hal
  clear hal hD1 hM hW hB
  go_enter Try.func12, Try.ntmps12
  go_wp2_with fail
  refine HAL.out.mono ?_
  rintro e w1 ⟨rfl, A1, c1, hW1, hC1, hA1⟩
  have HB1 := Lib.hid (Lst.keep HB.out hC1.size (fun b hl hs => hC1.2.2.2.2 b hl (hS b hs)))
  have HG := Lib.hid hW1.2.1
  have HO := Lib.hid hW1.2.2
  have HC := Lib.hid hC1
  have HA1 := Lib.hid hA1
  have hbs1 : base ≤ w1.heap.size := Nat.le_trans hbs hC1.size
  have HNE := Lib.hid (own_ne HG.out HO.out)
  have q0 := HG.out.cell 0
  obtain ⟨k, hk⟩ : ∃ k, D1.length = k := ⟨_, rfl⟩
  rw [hk] at q0 hDl HG HO HNE
  have HK := Lib.hid hk
  clear hW1 hC1 hA1 hk
  go_wp2_with (at_builtin; refine wpList_append_list _ rfl (.tmp 10) (.tmp 11) 27 rfl base 5 i0 (.int .u8 0) 1 1 Try.underlying27 hi hz0 hz1 hz2 rfl (by decide) (.slice A1 k c1) k _ rfl HO.out _ B m d _ rfl HB1.out oneCell_bytes (by unfold maxLen; omega) (by omega) hbs1 ?_)
  intro A3 c3 x3 hown3 hgrow3 hat3
  have HGx := Lib.hid (HG.out.grown hgrow3 HNE.out)
  have q0 := HGx.out.cell 0
  have q1 := HGx.out.free 0
  have q2 := HGx.out.cell 2
  have q3 := HGx.out.free 2
  have HO3 := Lib.hid hown3
  have HCx : Hid (Chg w x3 (Its g A)) := Lib.hid (HC.out.grown hgrow3 (fun b hb2 hb3 => by
    rcases HA1.out with rfl | ⟨b4, h4, rfl⟩
    · exact .inr (by cases A1 with | none => cases hb2 | some a => injection hb2 with hb2; simp [hb2])
    · injection hb2 with hb2
      simp at hb2
      omega))
  have HAT : Hid (A3 = A ∨ ∃ b, w.heap.size ≤ b ∧ A3 = some ⟨b, 0, none⟩) := by
    refine Lib.hid ?_
    rcases hat3 with h | h
    · have h5 : A3 = A1 := by
        rcases A1 with _ | a
        · rcases A3 with _ | a'
          · rfl
          · cases h
        · exact (own_head HO3.out h).trans (own_head HO.out rfl).symm
      rw [h5]
      exact HA1.out
    · exact .inr ⟨_, HC.out.size, own_head HO3.out h⟩
  clear hown3 hgrow3 hat3
  go_wp2
  go_end0
  have hne := (own_ne HGx.out HO3.out).symm
  have hl : (D1 ++ bs).length = k + m := by rw [List.length_append, HK.out, HBL.out]
  refine ⟨rfl, A3, c3, ⟨?_, ?_, ?_⟩, (HCx.out.put g 0 _ (.inl rfl)).put g 2 _ (.inl rfl), HAT.out⟩
  · exact Nat.pow_pos (by omega)
  · rw [hl]
    exact (HGx.out.put 0 _ rfl).put 2 _ (by simp)
  · rw [hl, List.map_append]
    exact ownsRow_setCell_other (a := ⟨g, 2, none⟩) (ownsRow_setCell_other (a := ⟨g, 0, none⟩) HO3.out hne _) hne _
end Go.Proofs.Ythpbiakjkmhfeaa
