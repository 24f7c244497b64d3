/- Tokens as the page's; the page's copy. -/
import Derived.Test.YtmnlghbmioekcaaT7
namespace Go.Proofs.Ytmnlghbmioekcaa
open Go.RowKit

theorem Toks.at2 {w : World} {S : Nat → Prop} {n : Nat} {A : Option Addr} {l : List Tok} (h : Toks w S A n l) {i : Nat} (hi : i < n) : ∃ b off, A = some ⟨b, off, none⟩ ∧ S b ∧ b < w.heap.size ∧ w.cell? ⟨b, off + i * 3, none⟩ = some (.int .u8 ((l.getD i (0, 0, 0)).1 : Int)) ∧ w.cell? ⟨b, off + i * 3 + 1, none⟩ = some (.int .i64 (l.getD i (0, 0, 0)).2.1) ∧
    w.cell? ⟨b, off + i * 3 + 2, none⟩ = some (.int .i64 (l.getD i (0, 0, 0)).2.2) := by
  obtain ⟨b, off, e, h1, h2, h3⟩ := h.at_ hi
  obtain ⟨b', off', e', hl, hb, _⟩ := h.2 (by omega)
  rw [e] at e'
  injection e' with e'
  injection e' with e1 e2
  subst e1 e2
  exact ⟨b, off, e, hb, hl, h1, h2, h3⟩
theorem info30 : (Try.prog.info? 30).map (fun i => (i.zero, i.size, i.bytes)) = some (some (.agg #[.int .u8 0, .int .i64 0, .int .i64 0]), 3, 24) := by kernel_rfl
def Refd (w : World) (m : Nat) (l : List Tok) (e : Ending) (w' : World) : Prop :=
  ∃ A' c', e = .returned (.slice A' m c') ∧ Toks w' (fun b => w.heap.size ≤ b) A' m l ∧ Below w.heap.size w w'
set_option maxHeartbeats 4000000 in
theorem refs_any (B : Option Addr) (m d : Nat) (l : List Tok) (w : World) (hL : Toks w (fun b => b < w.heap.size) B m l) (hm : m ≤ 1000) : Calls Try.prog 7 #[.slice B m d] w (Refd w m l) := by
  obtain ⟨i0, hi, hz0, hz1, hz2⟩ := info_parts info30
  have HL := Lib.hid hL
  have HLL := Lib.hid hL.len
  clear hL
  go_enter Try.func7, Try.ntmps7
  go_wp2
  go_loopw [3, 4] (fun o i wr => ∃ (j : Nat) (A2 : Option Addr) (c2 : Nat), j ≤ m ∧ i = .int .i64 (j : Nat) ∧ o = .slice A2 j c2 ∧ Hid (wr.ownsRow w.heap.size 30 3 (.slice A2 j c2) j (flatT (l.take j))) ∧ Hid (Below w.heap.size w wr)) (fun _ i _ => m - (intOf i).toNat)
  case atStart => exact ⟨0, none, 0, Nat.zero_le _, rfl, rfl, World.ownsRow_nil _ _ _ _, Below.refl _ _⟩
  case round =>
    obtain ⟨j, A2, c2, hj, rfl, rfl, hO, hB⟩ := hrel
    by_cases hlt : j < m
    · obtain ⟨tb, to, rfl, hS, hbl, h0, h1, h2⟩ := (HL.out.below hB.out).at2 hlt
      have HT := Lib.hid (take_snocT l j (by rw [HLL.out]; exact hlt))
      have HNE : Hid (some tb ≠ (Value.slice A2 j c2).ownBlock) := Lib.hid (fun e => by have := (hO.out.lt tb e.symm).1; omega)
      generalize l.getD j (0, 0, 0) = q at h0 h1 h2 HT
      obtain ⟨v, tl, td⟩ := q
      simp only at h0 h1 h2
      have ws := hB.out.size
      go_wp2
      go_region_held_law (fun w' => w'.cell? ⟨tb, to + j * 3, none⟩ = some (.int .u8 (v : Int)) ∧ w'.cell? ⟨tb, to + j * 3 + 1, none⟩ = some (.int .i64 tl) ∧ w'.cell? ⟨tb, to + j * 3 + 2, none⟩ = some (.int .i64 td))
        (first
          | go_keep
          | (go_split_ands
             refine ⟨?_, ?_, ?_⟩
             · (rw [hgrow.cell_far _ (by simp; omega) HNE.out]; assumption)
             · (rw [hgrow.cell_far _ (by simp; omega) HNE.out]; assumption)
             · (rw [hgrow.cell_far _ (by simp; omega) HNE.out]; assumption)))
        ((refine step_append_lies _ (by rfl) (.tmp 11) (.tmp 28) 26 (by rfl) w.heap.size 30 i0 _ 3 24 Try.underlying26 hi hz0 hz1 hz2 rfl (by omega) (.slice A2 j c2) j (flatT (l.take j)) (by rfl) ((hO.out.alloc _).drew)
            ⟨wr.heap.size, 0, none⟩ 1 1 [.int .u8 (v : Int), .int .i64 tl, .int .i64 td] (by rfl) (by rfl) (World.news_of_block (cs := #[.int .u8 (v : Int), .int .i64 tl, .int .i64 td]) (t := 30) (fr := (0, 0)) (heap_alloc_new wr _)) (by simp [Value.oneCell'])
            (by omega) (by unfold maxLen; omega) (by omega) (by simp; omega) (wr.heap.size + 1) (by simp) ?_; intro gg cap wx hown1 hgrow hat hlt1))
      have HO3 : Hid (wx.ownsRow w.heap.size 30 3 (.slice (some ⟨gg, 0, none⟩) (j + 1) cap) (j + 1) (flatT (l.take (j + 1)))) := by
        rw [HT.out, flatT_append]
        exact Lib.hid hown1
      have HW3 := Lib.hid ((((hB.out.alloc ws _).drewN' 1).grown hgrow (by simp [World.drewN]; omega) (fun g e => (hO.out.lt g e).1)))
      clear hown1 hgrow hat h0 h1 h2
      go_wp2
      go_roundw
      case rel => exact ⟨j + 1, some ⟨gg, 0, none⟩, cap, by omega, by go_num, rfl, HO3, HW3⟩
      case measure => simp [intOf]; omega
    · obtain rfl : j = m := by omega
      have HF := Lib.hid (Lst.of_own hO.out)
      rw [List.take_of_length_le (by rw [HLL.out]; exact Nat.le_refl _)] at HF
      go_wp2
      go_ret
      exact ⟨A2, c2, rfl, HF.out, hB.out⟩
def Copied (w : World) (n L : Nat) (ys : List UInt8) (e : Ending) (w' : World) : Prop :=
  ∃ A' c' v, e = .returned (.tuple #[.slice A' (n + L) c', v]) ∧ w'.ownsRow w.heap.size 5 1 (.slice A' (n + L) c') (n + L) (ys.map bv) ∧ Below w.heap.size w w'
set_option maxHeartbeats 4000000 in
theorem copy_any (A : Option Addr) (n c D L : Nat) (xs : List UInt8) (S : Nat → Prop) (w : World) (hA : Bs w S A n xs) (hn : n ≤ 400000) (hD1 : 1 ≤ D) (hDn : D ≤ n) (hL1 : 1 ≤ L) (hL : L ≤ 1000) :
    Calls Try.prog 17 #[.slice A n c, .int .i64 (D : Nat), .int .i64 (L : Nat)] w (Copied w n L (rep xs D L)) := by
  obtain ⟨i0, hi, hz0, hz1, hz2⟩ := info_parts info5
  have HXL := Lib.hid hA.len
  have HA := Lib.hid hA
  clear hA
  go_enter Try.func17, Try.ntmps17
  go_wp2_with (at_builtin; refine wpList_append_list _ rfl (.tmp 10) (.tmp 11) 22 rfl w.heap.size 5 i0 (.int .u8 0) 1 1 Try.underlying22 hi hz0 hz1 hz2 rfl (by decide) (.slice (some ⟨w.heap.size, 0, none⟩) 0 0) 0 [] rfl (own_nothing w 5 1 (Nat.le_refl _)) _ A n c _ rfl (Lst.alloc HA.out _) oneCell_bytes (by unfold maxLen; omega) (by omega) (by simp) ?_)
  intro A3 c3 x3 hown3 hgrow3 hat3
  have HW3 := Lib.hid (((Below.refl w.heap.size w).alloc (Nat.le_refl _) (.cells #[] 5)).grown hgrow3 (by simp) (fun g e => by simp [Value.ownBlock] at e; omega))
  have HO3 : Hid (x3.ownsRow w.heap.size 5 1 (.slice A3 n c3) n (xs.map bv)) := Lib.hid (by simpa using hown3)
  clear hown3 hgrow3 hat3
  go_wp2
  go_loopw [8, 9] (fun o i wr => ∃ (k : Nat) (A4 : Option Addr) (c4 : Nat), k ≤ L ∧ i = .int .i64 (k : Nat) ∧ o = .slice A4 (n + k) c4 ∧ Hid (wr.ownsRow w.heap.size 5 1 (.slice A4 (n + k) c4) (n + k) ((rep xs D k).map bv)) ∧ Hid (Below w.heap.size w wr)) (fun _ i _ => L - (intOf i).toNat)
  case atStart => exact ⟨0, A3, c3, Nat.zero_le _, rfl, rfl, HO3, HW3⟩
  case round =>
    obtain ⟨k, A4, c4, hk, rfl, rfl, hO4, hW4⟩ := hrel
    by_cases hkl : k < L
    · have dk : decide ((k : Int) < (L : Int)) = true := by simp; omega
      obtain ⟨g4, rfl, hc4⟩ := own_some hO4.out (by omega)
      obtain ⟨M, hM⟩ : ∃ M, n + k = M := ⟨_, rfl⟩
      rw [hM] at hO4 hc4 ⊢
      have hMb : M ≤ 500000 := by omega
      obtain ⟨p, hp⟩ : ∃ p, M - D = p := ⟨_, rfl⟩
      have hp' : (M : Int) - (D : Int) = (p : Nat) := by omega
      have hpM : p < M := by omega
      have hml : (rep xs D k).length = M := by rw [rep_len, HXL.out]; exact hM
      obtain ⟨z, hz⟩ : ∃ z : UInt8, (rep xs D k).getD p 0 = z := ⟨_, rfl⟩
      have hcz : wr.cell? ⟨g4, p, none⟩ = some (.int .u8 (z.toNat : Int)) := by
        rw [World.ownsRow.cellAt hO4.out p (by omega), List.getElem?_map, List.getElem?_eq_getElem (by omega), ← hz, List.getD_eq_getElem?_getD, List.getElem?_eq_getElem (by omega)]
        rfl
      have HRS : Hid (rep xs D (k + 1) = rep xs D k ++ [z]) := Lib.hid (by rw [rep, hml, hp, hz])
      obtain ⟨z', hz'⟩ : ∃ z' : Nat, z.toNat = z' := ⟨_, rfl⟩
      rw [hz'] at hcz
      have HZ' := Lib.hid hz'
      have i1 : (p : Int) < (M : Int) := by omega
      have HMM := Lib.hid hM
      clear hz hz' hml hp hM
      go_wp2_with (at_builtin; refine wpList_append_list _ rfl (.tmp 18) (.tmp 26) 22 rfl w.heap.size 5 i0 (.int .u8 0) 1 1 Try.underlying22 hi hz0 hz1 hz2 rfl (by decide) (.slice (some ⟨g4, 0, none⟩) M c4) M _ rfl (hO4.out.alloc _) _ (some ⟨wr.heap.size, 0, none⟩) 1 1 [.int .u8 (z' : Int)] rfl (Lst.new wr 5 #[.int .u8 (z' : Int)] 1 rfl rfl) (by simp [Value.oneCell']) (by unfold maxLen; omega) (by omega) (by have := hW4.out.size; simp; omega) ?_)
      intro A5 c5 x5 hown5 hgrow5 hat5
      have HO5 : Hid (x5.ownsRow w.heap.size 5 1 (.slice A5 (n + (k + 1)) c5) (n + (k + 1)) ((rep xs D (k + 1)).map bv)) := by
        rw [HRS.out, List.map_append, List.map_singleton, show n + (k + 1) = M + 1 by have := HMM.out; omega, show bv z = .int .u8 (z' : Int) by rw [← HZ'.out]]
        exact Lib.hid hown5
      have HW5 := Lib.hid ((hW4.out.alloc hW4.out.size _).grown hgrow5 (by have := hW4.out.size; simp; omega) (fun g e => (hO4.out.lt g e).1))
      clear hown5 hgrow5 hat5
      go_wp2
      exact ⟨⟨k + 1, A5, c5, by omega, by go_num, by rw [show n + (k + 1) = M + 1 by have := HMM.out; omega], HO5, HW5⟩, by simp [intOf]; omega⟩
    · obtain rfl : k = L := by omega
      obtain ⟨g4, rfl, hc4⟩ := own_some hO4.out (by omega)
      have hcn : ¬ n = c4 := by omega
      have hcn' : ¬ c4 = n := by omega
      have dk : decide ((k : Int) < (k : Int)) = false := by simp
      obtain ⟨M, hM⟩ : ∃ M, n + k = M := ⟨_, rfl⟩
      rw [hM] at hO4 hc4 ⊢
      have HM := Lib.hid hM
      have i1 : (n : Int) ≤ (M : Int) := by omega
      clear hM dk
      go_wp2
      go_quiet (fail)
      go_wp2
      go_ret2
      unfold Copied
      rw [HM.out]
      exact ⟨_, c4, _, rfl, hO4.out, hW4.out.drewN' _⟩
end Go.Proofs.Ytmnlghbmioekcaa
