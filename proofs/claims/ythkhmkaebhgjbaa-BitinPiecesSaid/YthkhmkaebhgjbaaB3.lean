/- Two readers of bits, side by side. -/
import Derived.Test.YthkhmkaebhgjbaaB2
namespace Go.Proofs.Ythkhmkaebhgjbaa
open Go.RowKit

/-- A reader: its row at A, U the number of its l bits that are left, t bits taken, at most F bytes fed. -/
def Rq (w : World) (base g : Nat) (A : Option Addr) (U l t F : Nat) : Prop := ∃ c D P G, Rd w base g A c D P G ∧ num D / 2 ^ P = U ∧ 8 * D.length - P = l ∧ G + P = t ∧ D.length ≤ F
theorem own_chg {w w' : World} {S : Nat → Prop} {base n c sz : Nat} {e : TypeId} {A : Option Addr} {xs : List Value} (h : w.ownsRow base e sz (.slice A n c) n xs) (hC : Chg w w' S) (hA : ∀ k, A.map (·.block) = some k → ¬ S k) : w'.ownsRow base e sz (.slice A n c) n xs := by
  refine ⟨h.1, ?_⟩
  rcases h.2 with h1 | ⟨g, cap, cur, h1, h2, h3, h4⟩
  · exact .inl h1
  · injection h1 with e1 e2 e3
    subst e1 e3
    exact .inr ⟨g, _, cur, rfl, h2, (hC.2.2.2.2 g (Whole.lt h3) (hA g rfl)).trans h3, h4⟩
theorem Rq.chg {w w' : World} {S : Nat → Prop} {base g U l t F : Nat} {A : Option Addr} (h : Rq w base g A U l t F) (hC : Chg w w' S) (hg : ¬ S g) (hA : ∀ k, A.map (·.block) = some k → ¬ S k) : Rq w' base g A U l t F := by
  obtain ⟨c, D, P, G, ⟨h1, h2, h3⟩, h4⟩ := h
  exact ⟨c, D, P, G, ⟨h1, hC.whole h2 hg, own_chg h3 hC hA⟩, h4⟩
/-- Two readers that share no block. -/
def Two (w : World) (base g1 g2 U1 l1 t1 F1 U2 l2 t2 F2 : Nat) : Prop :=
  ∃ A1 A2, Rq w base g1 A1 U1 l1 t1 F1 ∧ Rq w base g2 A2 U2 l2 t2 F2 ∧ g1 ≠ g2 ∧ ∀ k, A1.map (·.block) = some k → A2.map (·.block) = some k → False
theorem Two.symm {w : World} {base g1 g2 U1 l1 t1 F1 U2 l2 t2 F2 : Nat} (h : Two w base g1 g2 U1 l1 t1 F1 U2 l2 t2 F2) : Two w base g2 g1 U2 l2 t2 F2 U1 l1 t1 F1 := by
  obtain ⟨A1, A2, h1, h2, h3, h4⟩ := h
  exact ⟨A2, A1, h2, h1, h3.symm, fun k a b => h4 k b a⟩
theorem Two.drewN {w : World} {base g1 g2 U1 l1 t1 F1 U2 l2 t2 F2 : Nat} (h : Two w base g1 g2 U1 l1 t1 F1 U2 l2 t2 F2) (m : Nat) : Two (w.drewN m) base g1 g2 U1 l1 t1 F1 U2 l2 t2 F2 := h
theorem Rq.row {w : World} {base g U l t F : Nat} {A : Option Addr} (h : Rq w base g A U l t F) : (∀ k, A.map (·.block) = some k → base ≤ k ∧ k < w.heap.size) ∧ (∀ g' ty cs, Whole w g' ty cs → ty ≠ 5 → A.map (·.block) ≠ some g') ∧ g < w.heap.size ∧ ∃ cs, Whole w g 34 cs := by
  obtain ⟨c, D, P, G, ⟨h1, h2, h3⟩, _⟩ := h
  refine ⟨fun k hk => h3.lt k ?_, fun g' ty cs hw ht hk => own_ne' ht hw h3 ?_, h2.lt, _, h2⟩
  · cases A with
    | none => cases hk
    | some a => exact hk
  · cases A with
    | none => cases hk
    | some a => exact hk.symm
theorem Two.at_below {w : World} {base g1 g2 U1 l1 t1 F1 U2 l2 t2 F2 : Nat} (h : Two w base g1 g2 U1 l1 t1 F1 U2 l2 t2 F2) : g1 < w.heap.size ∧ g2 < w.heap.size := by
  obtain ⟨A1, A2, h1, h2, _⟩ := h
  exact ⟨h1.row.2.2.1, h2.row.2.2.1⟩
/-- One of two is fed. -/
theorem two_feed (base g1 g2 U1 l1 t1 F1 U2 l2 t2 F2 : Nat) (B : Option Addr) (m d : Nat) (bs : List UInt8) (w : World) (hT : Two w base g1 g2 U1 l1 t1 F1 U2 l2 t2 F2) (hB : Bs w (fun b => b ≠ g2) B m bs) (hF : F2 ≤ 1000000) (ht : t2 ≤ 1000000) (hm : m ≤ 1000000) (hb : base ≤ g2) (hbs : base ≤ w.heap.size) :
    Calls Try.prog 6 #[.pointer (some ⟨g2, 0, none⟩), .slice B m d] w fun e w' => e = .returned (.tuple #[]) ∧ Two w' base g1 g2 U1 l1 t1 F1 (U2 + num bs * 2 ^ l2) (l2 + 8 * m) t2 (F2 + m) ∧ Below base w w' := by
  obtain ⟨A1, A2, h1, h2, h3, h4⟩ := hT
  have r1 := h1.row
  have r2 := h2.row
  obtain ⟨c, D, P, G, hR, e1, e2, e3, e4⟩ := h2
  refine (feed_any base g2 A2 c D P G B m d bs w hR hB (by omega) (by omega) (by omega) hbs).mono ?_
  rintro e w1 ⟨rfl, A', c', D', P', G', hR', i1, i2, i3, i4, hC, hA⟩
  have hbl := hB.len
  have hS : ∀ k, k < base → ¬ Its g2 A2 k := by
    rintro k hk (h | h)
    · omega
    · have := r2.1 k h
      omega
  obtain ⟨cs1, hw1⟩ := r1.2.2.2
  obtain ⟨cs2, hw2⟩ := r2.2.2.2
  refine ⟨rfl, ⟨A1, A', h1.chg hC ?_ ?_, ⟨c', D', P', G', hR', by rw [i1, e1, e2], by rw [i2, e2, hbl], by rw [i3, e3], by omega⟩, h3, ?_⟩, Chg.below (Below.refl _ _) hC hS hbs⟩
  · rintro (h | h)
    · exact h3 h
    · exact r2.2.1 g1 34 _ hw1 (by decide) h
  · rintro k hk (h | h)
    · subst h
      exact r1.2.1 k 34 _ hw2 (by decide) hk
    · exact h4 k hk h
  · intro k hk hk'
    rcases hA with rfl | hA
    · exact h4 k hk hk'
    · have := hA k hk'
      have := (r1.1 k hk).2
      omega
/-- Bits of one of two. -/
theorem two_bits (base g1 g2 U1 l1 t1 F1 U2 l2 t2 F2 n : Nat) (w : World) (hT : Two w base g1 g2 U1 l1 t1 F1 U2 l2 t2 F2) (hF : F2 ≤ 1000000) (hn : n ≤ 32) (hl : n ≤ l2) (hb : base ≤ g2) (hbs : base ≤ w.heap.size) :
    Calls Try.prog 8 #[.pointer (some ⟨g2, 0, none⟩), .int .i64 (n : Nat)] w fun e w' => e = .returned (.tuple #[.int .u32 (U2 % 2 ^ n : Nat), .bool true]) ∧ Two w' base g1 g2 U1 l1 t1 F1 (U2 / 2 ^ n) (l2 - n) (t2 + n) F2 ∧ Below base w w' := by
  obtain ⟨A1, A2, h1, h2, h3, h4⟩ := hT
  have r1 := h1.row
  have r2 := h2.row
  obtain ⟨c, D, P, G, hR, e1, e2, e3, e4⟩ := h2
  refine (bits_yes base g2 A2 c D P G n w hR (by omega) hn (by omega)).mono ?_
  rintro e w1 ⟨rfl, hR', hC⟩
  rw [e1]
  obtain ⟨cs2, hw2⟩ := r2.2.2.2
  refine ⟨rfl, ⟨A1, A2, h1.chg hC h3 ?_, ⟨c, D, P + n, G, hR', ?_, by omega, by omega, e4⟩, h3, h4⟩, Chg.below (Below.refl _ _) hC (fun k hk h => by omega) hbs⟩
  · rintro k hk h
    subst h
    exact r1.2.1 k 34 _ hw2 (by decide) hk
  · rw [Nat.pow_add, ← Nat.div_div_eq_div_mul, e1]
theorem two_none (base g1 g2 U1 l1 t1 F1 U2 l2 t2 F2 n : Nat) (w : World) (hT : Two w base g1 g2 U1 l1 t1 F1 U2 l2 t2 F2) (hF : F2 ≤ 1000000) (hn : n ≤ 32) (hl : l2 < n) :
    Calls Try.prog 8 #[.pointer (some ⟨g2, 0, none⟩), .int .i64 (n : Nat)] w fun e w' => e = .returned (.tuple #[.int .u32 0, .bool false]) ∧ Two w' base g1 g2 U1 l1 t1 F1 U2 l2 t2 F2 ∧ Below base w w' := by
  obtain ⟨A1, A2, h1, h2, h3, h4⟩ := hT
  obtain ⟨c, D, P, G, hR, e1, e2, e3, e4⟩ := h2
  refine (bits_no base g2 A2 c D P G n w hR (by omega) hn (by omega)).mono ?_
  rintro e w1 ⟨rfl, m, rfl⟩
  exact ⟨rfl, ⟨A1, A2, h1, ⟨c, D, P, G, hR, e1, e2, e3, e4⟩, h3, h4⟩, (Below.refl _ _).drewN' m⟩
theorem two_left (base g1 g2 U1 l1 t1 F1 U2 l2 t2 F2 : Nat) (w : World) (hT : Two w base g1 g2 U1 l1 t1 F1 U2 l2 t2 F2) (hF : F2 ≤ 1000000) :
    Calls Try.prog 7 #[.pointer (some ⟨g2, 0, none⟩)] w fun e w' => e = .returned (.int .i64 (l2 : Nat)) ∧ ∃ m, w' = w.drewN m := by
  obtain ⟨A1, A2, h1, ⟨c, D, P, G, hR, e1, e2, e3, e4⟩, h3, h4⟩ := hT
  have := left_any base g2 A2 c D P G w hR (by omega)
  rwa [e2] at this
theorem at_any (base g : Nat) (A : Option Addr) (c : Nat) (D : List UInt8) (P G : Nat) (w : World) (hR : Rd w base g A c D P G) (hP : G + P ≤ 1000000) :
    Calls Try.prog 9 #[.pointer (some ⟨g, 0, none⟩)] w fun e w' => e = .returned (.int .i64 (G + P : Nat)) ∧ ∃ m, w' = w.drewN m := by
  obtain ⟨_, hg, _⟩ := hR
  have c2 := hg.cell 2
  have c1 := hg.cell 1
  clear hg
  go_enter Try.func9, Try.ntmps9
  go_wp2
  go_quiet (fail)
  go_wp2
  go_ret
  exact ⟨rfl, _, rfl⟩
theorem two_at (base g1 g2 U1 l1 t1 F1 U2 l2 t2 F2 : Nat) (w : World) (hT : Two w base g1 g2 U1 l1 t1 F1 U2 l2 t2 F2) (ht : t2 ≤ 1000000) :
    Calls Try.prog 9 #[.pointer (some ⟨g2, 0, none⟩)] w fun e w' => e = .returned (.int .i64 (t2 : Nat)) ∧ ∃ m, w' = w.drewN m := by
  obtain ⟨A1, A2, h1, ⟨c, D, P, G, hR, e1, e2, e3, e4⟩, h3, h4⟩ := hT
  have := at_any base g2 A2 c D P G w hR (by omega)
  rwa [e3] at this
/-- The bytes that are left. -/
theorem rest_num (D : List UInt8) (P : Nat) (h : P ≤ 8 * D.length) : D.drop ((P + 7) / 8) = leB (num D / 2 ^ P / 2 ^ ((8 * D.length - P) % 8)) ((8 * D.length - P) / 8) := by
  have hp : (P + 7) / 8 ≤ D.length := by omega
  have e1 : P + (8 * D.length - P) % 8 = 8 * ((P + 7) / 8) := by omega
  rw [Nat.div_div_eq_div_mul, ← Nat.pow_add, e1, Nat.pow_mul, show (2 : Nat) ^ 8 = 256 from rfl]
  have h1 := num_split D ((P + 7) / 8) hp
  rw [h1, Nat.add_mul_div_left _ _ (Nat.pow_pos (by omega)), Nat.div_eq_of_lt (num_take_lt D _), Nat.zero_add]
  have h2 := leB_num (D.drop ((P + 7) / 8))
  rw [List.length_drop] at h2
  rw [show (8 * D.length - P) / 8 = D.length - (P + 7) / 8 by omega]
  exact h2.symm
end Go.Proofs.Ythkhmkaebhgjbaa
