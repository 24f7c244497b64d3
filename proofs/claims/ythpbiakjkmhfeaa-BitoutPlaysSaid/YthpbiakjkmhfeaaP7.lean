/- BitoutPlays: what holds between two calls. -/
import Derived.Test.YthpbiakjkmhfeaaP6
namespace Go.Proofs.Ythpbiakjkmhfeaa
open Go.RowKit

theorem own_blk {w : World} {base n c sz : Nat} {e : TypeId} {A : Option Addr} {xs : List Value} (h : w.ownsRow base e sz (.slice A n c) n xs) {k : Nat} (hk : A.map (·.block) = some k) : base ≤ k ∧ k < w.heap.size ∧ ∃ cs, Whole w k e cs := by
  rcases h.2 with ⟨h1, _⟩ | ⟨g, cap, cur, h1, h2, h3, _⟩
  · injection h1 with h1
    subst h1
    cases hk
  · injection h1 with h1
    subst h1
    injection hk with hk
    simp at hk
    subst hk
    exact ⟨h2, Whole.lt h3, cur, h3⟩
theorem whole_ty {w : World} {k : Nat} {t t' : TypeId} {cs cs' : Array Value} (h : Whole w k t cs) (h' : Whole w k t' cs') : t = t' := by
  unfold Whole at h h'
  rw [h] at h'
  injection h' with h'
  injection h' with _ h'
theorem own_chg {w w' : World} {S : Nat → Prop} {base n c sz : Nat} {e : TypeId} {A : Option Addr} {xs : List Value} (h : w.ownsRow base e sz (.slice A n c) n xs) (hC : Chg w w' S) (hA : ∀ k, A.map (·.block) = some k → ¬ S k) : w'.ownsRow base e sz (.slice A n c) n xs := by
  refine ⟨h.1, ?_⟩
  rcases h.2 with h1 | ⟨g, cap, cur, h1, h2, h3, h4⟩
  · exact .inl h1
  · injection h1 with e1 e2 e3
    subst e1 e3
    exact .inr ⟨g, _, cur, rfl, h2, (hC.2.2.2.2 g (Whole.lt h3) (hA g rfl)).trans h3, h4⟩
/-- The writer, the page's bits, the bytes that came. -/
structure St (w : World) (base g : Nat) (A : Option Addr) (c : Nat) (D : List UInt8) (L N : Nat) (Ab : Option Addr) (nb cb : Nat) (bs : List Bool) (Ao : Option Addr) (no co : Nat) (O : List UInt8) : Prop where
  wr : Wr w base g A c D L N
  al : w.ownsRow base 4 1 (.slice Ab nb cb) nb (bs.map bo)
  out : w.ownsRow base 5 1 (.slice Ao no co) no (O.map bv)
  ne : ∀ k, A.map (·.block) = some k → Ao.map (·.block) = some k → False
  gb : base ≤ g
  bb : base ≤ w.heap.size
section
variable {w w' : World} {base g : Nat} {A : Option Addr} {c : Nat} {D : List UInt8} {L N : Nat} {Ab : Option Addr} {nb cb : Nat} {bs : List Bool} {Ao : Option Addr} {no co : Nat} {O : List UInt8}
theorem St.apart (h : St w base g A c D L N Ab nb cb bs Ao no co O) : (∀ k, Ab.map (·.block) = some k → ¬ Its g A k) ∧ (∀ k, Ao.map (·.block) = some k → ¬ Its g A k) := by
  refine ⟨fun k hk hi => ?_, fun k hk hi => ?_⟩
  · obtain ⟨_, _, cs, h1⟩ := own_blk h.al hk
    rcases hi with rfl | hi
    · have := whole_ty h1 h.wr.2.1
      cases this
    · obtain ⟨_, _, cs2, h2⟩ := own_blk h.wr.2.2 hi
      have := whole_ty h1 h2
      cases this
  · obtain ⟨_, _, cs, h1⟩ := own_blk h.out hk
    rcases hi with rfl | hi
    · have := whole_ty h1 h.wr.2.1
      cases this
    · exact h.ne k hi hk
theorem St.put {D' : List UInt8} {L' N' : Nat} {r : Value} {e : Ending} (h : St w base g A c D L N Ab nb cb bs Ao no co O) (hp : Put w base g A D' L' N' r e w') :
    e = .returned r ∧ ∃ A' c', St w' base g A' c' D' L' N' Ab nb cb bs Ao no co O ∧ Below base w w' := by
  obtain ⟨he, A', c', hW, hC, hA⟩ := hp
  obtain ⟨a1, a2⟩ := h.apart
  refine ⟨he, A', c', ⟨hW, own_chg h.al hC a1, own_chg h.out hC a2, fun k k1 k2 => ?_, h.gb, Nat.le_trans h.bb hC.size⟩, Chg.below (Below.refl _ _) hC (h.wr.its h.gb (Nat.le_refl _)) h.bb⟩
  rcases hA with rfl | ⟨b, hb, rfl⟩
  · exact h.ne k k1 k2
  · injection k1 with k1
    simp at k1
    have := (own_blk h.out k2).2.1
    omega
theorem own_below {w w' : World} {base n c sz : Nat} {e : TypeId} {A : Option Addr} {xs : List Value} (h : w.ownsRow base e sz (.slice A n c) n xs) (hb : Below w.heap.size w w') : w'.ownsRow base e sz (.slice A n c) n xs :=
  own_chg h (Chg.of_below (S := fun _ => False) hb) (fun _ _ h => h)
theorem Wr.below (h : Wr w base g A c D L N) (hb : Below w.heap.size w w') : Wr w' base g A c D L N := ⟨h.1, h.2.1.below' hb, own_below h.2.2 hb⟩
theorem St.below (h : St w base g A c D L N Ab nb cb bs Ao no co O) (hb : Below w.heap.size w w') : St w' base g A c D L N Ab nb cb bs Ao no co O :=
  ⟨h.wr.below hb, own_below h.al hb, own_below h.out hb, h.ne, h.gb, Nat.le_trans h.bb hb.size⟩
theorem St.all {n' : Nat} {bs' : List Bool} {e : Ending} (h : St w base g A c D L N Ab nb cb bs Ao no co O) (hp : Rput w n' bs' e w') :
    ∃ Ab' cb', e = .returned (.slice Ab' n' cb') ∧ St w' base g A c D L N Ab' n' cb' bs' Ao no co O ∧ Below base w w' := by
  obtain ⟨A', c', he, ho, hb⟩ := hp
  have h1 := h.below hb
  exact ⟨A', c', he, ⟨h1.wr, own_mono ho h.bb, h1.out, h1.ne, h1.gb, h1.bb⟩, hb.mono h.bb⟩
theorem St.clone {e : Ending} (h : St w base g A c D L N Ab nb cb bs Ao no co O) (hp : Clond w base D L N e w') :
    ∃ g' A' c', e = .returned (.pointer (some ⟨g', 0, none⟩)) ∧ St w' base g A c D L N Ab nb cb bs Ao no co O ∧ St w' base g' A' c' D L N Ab nb cb bs Ao no co O ∧ (∀ k, Its g' A' k → ¬ Its g A k) ∧ Below base w w' := by
  obtain ⟨g', A', c', he, hW, hb, hg, hA⟩ := hp
  have h1 := h.below hb
  refine ⟨g', A', c', he, h1, ⟨hW, h1.al, h1.out, fun k k1 k2 => ?_, Nat.le_trans h.bb hg, h1.bb⟩, fun k hk hk' => ?_, hb.mono h.bb⟩
  · have := (own_blk h.out k2).2.1
    have := hA k k1
    omega
  · have hlt : k < w.heap.size := by
      rcases hk' with rfl | hk'
      · exact h.wr.2.1.lt
      · exact (own_blk h.wr.2.2 hk').2.1
    rcases hk with rfl | hk
    · omega
    · have := hA k hk
      omega
/-- The clone when the first one has been spoilt. -/
theorem St.spoilt {g' c' L' N' : Nat} {A' : Option Addr} {D2 : List UInt8} {r : Value} {e : Ending} (h : St w base g A c D L N Ab nb cb bs Ao no co O) (h2 : St w base g' A' c' D2 L' N' Ab nb cb bs Ao no co O) (hd : ∀ k, Its g' A' k → ¬ Its g A k) {D3 : List UInt8} {L3 N3 : Nat} (hp : Put w base g A D3 L3 N3 r e w') :
    e = .returned r ∧ St w' base g' A' c' D2 L' N' Ab nb cb bs Ao no co O ∧ Below base w w' := by
  obtain ⟨he, A3, c3, hW, hC, hA⟩ := hp
  obtain ⟨a1, a2⟩ := h.apart
  exact ⟨he, ⟨⟨h2.wr.1, hC.whole h2.wr.2.1 (hd g' (.inl rfl)), own_chg h2.wr.2.2 hC (fun k hk => hd k (.inr hk))⟩, own_chg h.al hC a1, own_chg h.out hC a2, h2.ne, h2.gb, Nat.le_trans h.bb hC.size⟩, Chg.below (Below.refl _ _) hC (h.wr.its h.gb (Nat.le_refl _)) h.bb⟩
end
/-- How the writer's bytes and bits stand to the page's. -/
def Rl (O D : List UInt8) (L N : Nat) (bs : List Bool) : Prop := bs.length = N ∧ bnum bs = num O + 256 ^ O.length * (num D + 256 ^ D.length * L) ∧ O.length + D.length = N / 8 ∧ L < 2 ^ (N % 8)
theorem pow_join (a b N : Nat) (h : a + b = N / 8) : 256 ^ a * (256 ^ b * 2 ^ (N % 8)) = 2 ^ N := by
  rw [← Nat.mul_assoc, ← Nat.pow_add, h, show (256 : Nat) = 2 ^ 8 from rfl, ← Nat.pow_mul, ← Nat.pow_add]
  congr 1
  omega
theorem Rl.put {O D : List UInt8} {L N : Nat} {bs : List Bool} (h : Rl O D L N bs) (x n : Nat) (hL : (L + x % 2 ^ n * 2 ^ (N % 8)) / 256 ^ ((N % 8 + n) / 8) < 2 ^ ((N + n) % 8)) :
    Rl O (D ++ leB (L + x % 2 ^ n * 2 ^ (N % 8)) ((N % 8 + n) / 8)) ((L + x % 2 ^ n * 2 ^ (N % 8)) / 256 ^ ((N % 8 + n) / 8)) (N + n) (bs ++ bitsOf x n) := by
  obtain ⟨h1, h2, h3, h4⟩ := h
  refine ⟨by rw [List.length_append, bitsOf_len, h1], ?_, by rw [List.length_append, leB_len]; omega, hL⟩
  rw [bnum_append, bnum_bits, h1, h2, num_div D L (N % 8), Nat.mul_add (256 ^ O.length) (num D + 256 ^ D.length * L), Nat.mul_left_comm (256 ^ O.length), pow_join _ _ _ h3, Nat.add_assoc, Nat.mul_comm (2 ^ N)]
theorem pad_lt (L N : Nat) (h : L < 2 ^ (N % 8)) : L < 256 ^ ((N % 8 + 7) / 8) := by
  by_cases hz : N % 8 = 0
  · rw [hz] at h ⊢
    simpa using h
  · rw [show (N % 8 + 7) / 8 = 1 by omega]
    have : 2 ^ (N % 8) ≤ 2 ^ 7 := Nat.pow_le_pow_right (by omega) (by omega)
    omega
theorem Rl.align {O D : List UInt8} {L N : Nat} {bs : List Bool} (h : Rl O D L N bs) : Rl O (D ++ leB L ((N % 8 + 7) / 8)) 0 ((N + 7) / 8 * 8) (bs ++ List.replicate ((8 - N % 8) % 8) false) := by
  obtain ⟨h1, h2, h3, h4⟩ := h
  refine ⟨by rw [List.length_append, List.length_replicate, h1]; omega, ?_, by rw [List.length_append, leB_len]; omega, Nat.pow_pos (by omega)⟩
  rw [bnum_append, bnum_falses, h2, num_append, num_leB, Nat.mod_eq_of_lt (pad_lt L N h4)]
  simp
theorem Rl.bytes {O D : List UInt8} {M : Nat} {bs : List Bool} (h : Rl O D 0 M bs) (hM : M % 8 = 0) (xs : List UInt8) : Rl O (D ++ xs) 0 (M + 8 * xs.length) (bs ++ bitsB xs) := by
  obtain ⟨h1, h2, h3, h4⟩ := h
  refine ⟨by rw [List.length_append, bitsB_len, h1], ?_, by rw [List.length_append]; omega, Nat.pow_pos (by omega)⟩
  have h5 := pow_join _ _ _ h3
  rw [hM, Nat.pow_zero, Nat.mul_one] at h5
  rw [bnum_append, bnum_bitsB, h1, h2, num_append, Nat.mul_zero, Nat.add_zero, Nat.mul_zero, Nat.add_zero, Nat.mul_add, ← Nat.mul_assoc, h5, Nat.add_assoc]
theorem Rl.take {O D : List UInt8} {L N : Nat} {bs : List Bool} (h : Rl O D L N bs) : Rl (O ++ D) [] L N bs := by
  obtain ⟨h1, h2, h3, h4⟩ := h
  refine ⟨h1, ?_, by rw [List.length_append]; simpa using h3, h4⟩
  rw [h2, num_append, List.length_append, num, Nat.pow_add, List.length_nil, Nat.pow_zero, Nat.one_mul, Nat.zero_add, Nat.mul_add, Nat.mul_assoc, Nat.add_assoc]
theorem Rl.outs {O : List UInt8} {L N : Nat} {bs : List Bool} (h : Rl O [] L N bs) : leB (bnum (bs.take (N / 8 * 8))) (N / 8) = O := by
  obtain ⟨h1, h2, h3, h4⟩ := h
  have h5 : O.length = N / 8 := by simpa using h3
  have h6 := bnum_cut bs 0 (N / 8 * 8) (Nat.zero_le _)
  rw [List.drop_zero, Nat.pow_zero, Nat.div_one] at h6
  rw [h6, h2, num, List.length_nil, Nat.pow_zero, Nat.one_mul, Nat.zero_add, show (2 : Nat) ^ (N / 8 * 8) = 256 ^ O.length by rw [h5, Nat.mul_comm, Nat.pow_mul], Nat.add_mul_mod_self_left, Nat.mod_eq_of_lt (num_lt O), ← h5, leB_num]
theorem Rl.fin {O : List UInt8} {M : Nat} {bs : List Bool} (h : Rl O [] 0 M bs) : bnum bs = num O ∧ O.length = M / 8 := by
  obtain ⟨h1, h2, h3, h4⟩ := h
  refine ⟨?_, by simpa using h3⟩
  rw [h2, num]
  simp
end Go.Proofs.Ythpbiakjkmhfeaa
