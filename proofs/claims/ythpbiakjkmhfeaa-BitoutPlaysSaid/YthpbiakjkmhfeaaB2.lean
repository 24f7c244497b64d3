/- The reader of bits: Bits, Feed. -/
import Derived.Test.YthpbiakjkmhfeaaB1
namespace Go.Proofs.Ythpbiakjkmhfeaa
open Go.RowKit

def Took2 (w : World) (base g : Nat) (A : Option Addr) (c : Nat) (D : List UInt8) (P G n : Nat) (e : Ending) (w' : World) : Prop :=
  e = .returned (.tuple #[.int .u32 (num D / 2 ^ P % 2 ^ n : Nat), .bool true]) ∧ Rd w' base g A c D (P + n) G ∧ Chg w w' (fun b => b = g)
theorem bits_bad (g : Nat) (n : Int) (w : World) (hn : n < 0 ∨ 32 < n) : Calls Try.prog 23 #[.pointer (some ⟨g, 0, none⟩), .int .i64 n] w fun e w' => e = .returned (.tuple #[.int .u32 0, .bool false]) ∧ w = w' := by
  go_enter Try.func23, Try.ntmps23
  go_wp2_with fail
  refine (peek_bad g n w hn).mono ?_
  rintro e w1 ⟨rfl, rfl⟩
  go_wp2
  go_ret2
  exact ⟨rfl, rfl⟩
theorem bits_no (base g : Nat) (A : Option Addr) (c : Nat) (D : List UInt8) (P G n : Nat) (w : World) (hR : Rd w base g A c D P G) (hD : D.length ≤ 1099511627776) (hn : n ≤ 32) (hl : 8 * D.length - P < n) :
    Calls Try.prog 23 #[.pointer (some ⟨g, 0, none⟩), .int .i64 (n : Nat)] w fun e w' => e = .returned (.tuple #[.int .u32 0, .bool false]) ∧ ∃ m, w' = w.drewN m := by
  have hp := peek_any base g A c D P G n w hR hD hn
  rw [show decide (n ≤ 8 * D.length - P) = false by simp; omega] at hp
  have HP := Lib.hid hp
  clear hp hl
  go_enter Try.func23, Try.ntmps23
  go_wp2_with fail
  refine HP.out.mono ?_
  rintro e w1 ⟨rfl, m, rfl⟩
  go_wp2
  go_ret2
  exact ⟨rfl, _, rfl⟩
theorem bits_yes (base g : Nat) (A : Option Addr) (c : Nat) (D : List UInt8) (P G n : Nat) (w : World) (hR : Rd w base g A c D P G) (hD : D.length ≤ 1099511627776) (hn : n ≤ 32) (hl : n ≤ 8 * D.length - P) :
    Calls Try.prog 23 #[.pointer (some ⟨g, 0, none⟩), .int .i64 (n : Nat)] w (Took2 w base g A c D P G n) := by
  have hp := peek_any base g A c D P G n w hR hD hn
  rw [show decide (n ≤ 8 * D.length - P) = true by simp; omega] at hp
  have HP := Lib.hid hp
  obtain ⟨h1, h2, h3⟩ := hR
  have c1 := h2.cell 1
  have f1 := h2.free 1
  have HG := Lib.hid h2
  have HO := Lib.hid h3
  have HL := Lib.hid (And.intro h1 hl)
  have hPb : P ≤ 8796093022208 := by omega
  obtain ⟨r, hr⟩ : ∃ r, num D / 2 ^ P % 2 ^ n = r := ⟨_, rfl⟩
  unfold Took2
  rw [hr] at HP ⊢
  clear hp hl h1 h2 h3 hr
  go_enter Try.func23, Try.ntmps23
  go_wp2_with fail
  refine HP.out.mono ?_
  rintro e w1 ⟨rfl, m, rfl⟩
  go_wp2
  go_ret2
  refine ⟨rfl, ⟨by have := HL.out; omega, ?_, ?_⟩, ?_⟩
  · exact (HG.out.drewN m).put 1 _ (by simp)
  · exact ownsRow_setCell_other (w := w.drewN m) (a := ⟨g, 1, none⟩) HO.out (own_ne' (by decide) HG.out HO.out).symm _
  · exact ((Chg.refl w _).drewN m).put g 1 _ rfl
set_option maxHeartbeats 400000 in
theorem clone_any (A : Option Addr) (n c : Nat) (bs : List UInt8) (S : Nat → Prop) (w : World) (hL : Bs w S A n bs) (hn : n ≤ 140737488355328) :
    Calls Try.prog 26 #[.slice A n c] w fun e w' => ∃ A' c', e = .returned (.slice A' n c') ∧ w'.ownsRow w.heap.size 5 1 (.slice A' n c') n (bs.map bv) ∧ Below w.heap.size w w' := by
  obtain ⟨i0, hi, hz0, hz1, hz2⟩ := info_parts info5
  have HL := Lib.hid hL
  clear hL
  have eq := fun (w : World) => Lib.run_eql_slice_nil (P := Try.prog) w 27 5 A n c 0 0 Try.underlying27
  rcases A with _ | a
  · obtain ⟨rfl, rfl⟩ := HL.out.nil_of
    go_enter Try.func26, Try.ntmps26
    go_wp2
    go_ret
    exact ⟨none, 0, rfl, World.ownsRow_nil _ _ _ _, Below.refl _ _⟩
  · go_enter Try.func26, Try.ntmps26
    go_wp2_with (at_builtin; refine wpList_append_list _ rfl (.tmp 5) (.tmp 6) 27 rfl w.heap.size 5 i0 (.int .u8 0) 1 1 Try.underlying27 hi hz0 hz1 hz2 rfl (by decide) (.slice (some ⟨w.heap.size, 0, none⟩) 0 0) 0 [] rfl (World.ownsRow_made w #[] 0 (Nat.le_refl _) (by unfold maxLen; omega) rfl) _ (some a) n c _ rfl (Lst.alloc HL.out _) oneCell_bytes (by unfold maxLen; omega) (by omega) (by simp) ?_)
    intro A3 c3 x3 hown3 hgrow3 hat3
    have HW3 := Lib.hid (((Below.refl w.heap.size w).alloc (Nat.le_refl _) _).grown hgrow3 (by simp) (fun g e => by simp [Value.ownBlock] at e; omega))
    have HO3 := Lib.hid hown3
    clear hown3 hgrow3 hat3
    go_wp2
    go_ret
    exact ⟨A3, c3, by simp, by have := HO3.out; simpa using this, HW3.out⟩
theorem own_mono {w : World} {b b' n sz : Nat} {e : TypeId} {v : Value} {xs : List Value} (h : w.ownsRow b' e sz v n xs) (hb : b ≤ b') : w.ownsRow b e sz v n xs := by
  refine ⟨h.1, ?_⟩
  rcases h.2 with h1 | ⟨g, cap, cur, h1, h2, h3⟩
  · exact .inl h1
  · exact .inr ⟨g, cap, cur, h1, Nat.le_trans hb h2, h3⟩
theorem own_bs {w : World} {base g n c : Nat} {A : Option Addr} {bs : List UInt8} (h : w.ownsRow base 5 1 (.slice A n c) n (bs.map bv)) (hne : some g ≠ (Value.slice A n c).ownBlock) : Bs w (fun b => b ≠ g) A n bs := by
  have h1 := Bs.of_own h
  refine ⟨h1.1, fun h0 => ?_⟩
  obtain ⟨b, off, rfl, h2, _, h3⟩ := h1.2 h0
  refine ⟨b, off, rfl, h2, fun e => hne ?_, h3⟩
  rw [← e]
  rfl
theorem Whole.pos {w : World} {g : Nat} {t : TypeId} {cs : Array Value} (h : Whole w g t cs) : g < w.heap.size := h.lt
theorem own_same {w w' : World} {base base' n n' c c' sz : Nat} {e : TypeId} {A A' : Option Addr} {xs xs' : List Value} (h : w.ownsRow base e sz (.slice A n c) n xs) (h' : w'.ownsRow base' e sz (.slice A' n' c') n' xs') (hb : (Value.slice A' n' c').ownBlock = (Value.slice A n c).ownBlock) : A' = A := by
  rcases A with _ | a
  · rcases A' with _ | a'
    · rfl
    · cases hb
  · exact own_head h' hb |>.trans (own_head h rfl).symm
theorem own_at {w w' : World} {base base' n n' c c' sz B : Nat} {e : TypeId} {A A' : Option Addr} {xs xs' : List Value} (h : w.ownsRow base e sz (.slice A n c) n xs) (h' : w'.ownsRow base' e sz (.slice A' n' c') n' xs')
    (hb : (Value.slice A' n' c').ownBlock = (Value.slice A n c).ownBlock ∨ (Value.slice A' n' c').ownBlock = some B) : A' = A ∨ A' = some ⟨B, 0, none⟩ := by
  rcases hb with hb | hb
  · exact .inl (own_same h h' hb)
  · exact .inr (own_head h' hb)
/-- A reader that has been fed: its bits are the old ones and then these. -/
def Fed (w : World) (base g : Nat) (A : Option Addr) (D : List UInt8) (P G : Nat) (bs : List UInt8) (e : Ending) (w' : World) : Prop :=
  e = .returned (.tuple #[]) ∧ ∃ A' c' D' P' G', Rd w' base g A' c' D' P' G' ∧ num D' / 2 ^ P' = num D / 2 ^ P + num bs * 2 ^ (8 * D.length - P) ∧ 8 * D'.length - P' = 8 * D.length - P + 8 * bs.length ∧ G' + P' = G + P ∧ D'.length ≤ D.length + bs.length ∧ Chg w w' (Its g A) ∧ (A' = A ∨ ∀ k, A'.map (·.block) = some k → w.heap.size ≤ k)
theorem fed_num (D bs : List UInt8) (P : Nat) (h : P ≤ 8 * D.length) : num (D ++ bs) / 2 ^ P = num D / 2 ^ P + num bs * 2 ^ (8 * D.length - P) := by
  rw [num_append, show (256 : Nat) ^ D.length = 2 ^ P * 2 ^ (8 * D.length - P) by rw [← Nat.pow_add, show P + (8 * D.length - P) = 8 * D.length by omega, Nat.pow_mul], Nat.mul_assoc, Nat.add_mul_div_left _ _ (Nat.pow_pos (by omega)), Nat.mul_comm (num bs)]
theorem drop_num (D : List UInt8) (P p : Nat) (hp : p = P / 8) (h : P ≤ 8 * D.length) : num (D.drop p) / 2 ^ (P - 8 * p) = num D / 2 ^ P := by
  have e1 : P = 8 * p + (P - 8 * p) := by omega
  rw [num_split D p (by omega)]
  conv => rhs; rw [e1, Nat.pow_add, ← Nat.div_div_eq_div_mul, Nat.pow_mul, show (2 : Nat) ^ 8 = 256 from rfl, Nat.add_mul_div_left _ _ (Nat.pow_pos (by omega)), Nat.div_eq_of_lt (num_take_lt D p), Nat.zero_add]
set_option maxHeartbeats 4000000 in
theorem feed_any (base g : Nat) (A : Option Addr) (c : Nat) (D : List UInt8) (P G : Nat) (B : Option Addr) (m d : Nat) (bs : List UInt8) (w : World) (hR : Rd w base g A c D P G) (hB : Bs w (fun b => b ≠ g) B m bs) (hD : D.length ≤ 1099511627776) (hm : m ≤ 1099511627776) (hG : G ≤ 1099511627776) (hbase : base ≤ w.heap.size) :
    Calls Try.prog 22 #[.pointer (some ⟨g, 0, none⟩), .slice B m d] w (Fed w base g A D P G bs) := by
  obtain ⟨i0, hi, hz0, hz1, hz2⟩ := info_parts info5
  obtain ⟨hP, hg, hO⟩ := hR
  have hbl := hB.len
  have HBL := Lib.hid hbl
  have c0 := hg.cell 0
  have c1 := hg.cell 1
  have c2 := hg.cell 2
  have f0 := hg.free 0
  have f1 := hg.free 1
  have f2 := hg.free 2
  have hgl := hg.lt
  obtain ⟨p, hp⟩ : ∃ p, P / 8 = p := ⟨_, rfl⟩
  have hp' : (P : Int) / 8 = (p : Nat) := by omega
  have W1 : IntKind.i64.wrap (p : Int) = p := IntWalk.i64_in _ (by omega)
  have HPp := Lib.hid hp
  obtain ⟨len, hlen⟩ : ∃ len, D.length = len := ⟨_, rfl⟩
  have HLEN := Lib.hid hlen
  have HN := Lib.hid (fed_num D bs P hP)
  have HDN := Lib.hid (drop_num D P p hp.symm hP)
  have HG := Lib.hid hg
  have HO := Lib.hid hO
  have HB := Lib.hid hB
  have HNE := Lib.hid (own_ne' (by decide) hg hO)
  rw [hlen] at c0 hP hD HG HO HNE
  have hpl : p ≤ len := by omega
  clear hg hO hp hB hbl hlen
  by_cases hdrop : len - p < p
  · obtain ⟨l2, hl2⟩ : ∃ l2, len - p = l2 := ⟨_, rfl⟩
    have hl2' : (len : Int) - (p : Int) = (l2 : Nat) := by omega
    have d1 : decide ((l2 : Int) < (p : Int)) = true := by simp; omega
    obtain ⟨P2, hP2⟩ : ∃ P2, P - 8 * p = P2 := ⟨_, rfl⟩
    have hP2' : (P : Int) - 8 * (p : Int) = (P2 : Nat) := by have := HPp.out; omega
    obtain ⟨G2, hG2⟩ : ∃ G2, G + 8 * p = G2 := ⟨_, rfl⟩
    have hG2' : (G : Int) + 8 * (p : Int) = (G2 : Nat) := by omega
    have HP2 := Lib.hid hP2
    have HG2 := Lib.hid hG2
    have HL2 := Lib.hid hl2
    have hsl : ∃ b, A = some ⟨b, 0, none⟩ ∧ len ≤ c := by
      rcases HO.out.2 with ⟨h1, h2⟩ | ⟨b, cap, cur, h1, _, _, h2, _⟩
      · omega
      · injection h1 with h1 _ h3
        exact ⟨b, h1, by omega⟩
    obtain ⟨b, rfl, hc⟩ := hsl
    have HD2 := Lib.hid (fed_num (D.drop p) bs (P - 8 * p) (by rw [List.length_drop, HLEN.out]; have := HPp.out; omega))
    by_cases hcp : c = p
    · subst hcp
      obtain rfl : len = c := by omega
      have hds : D.drop len = [] := List.drop_eq_nil_of_le (by rw [HLEN.out]; exact Nat.le_refl _)
      obtain rfl : l2 = 0 := by omega
      have HDS : Hid (Bs w (fun _ => True) (some ⟨b, 0, none⟩) 0 (D.drop len)) := Lib.hid (by rw [hds]; exact Bs.empty _ _ _)
      clear hP2 hG2 hl2 hds
      go_enter Try.func22, Try.ntmps22
      go_wp2_with fail
      refine (clone_any _ 0 0 (D.drop len) _ w HDS.out (by omega)).mono ?_
      rintro e w1 ⟨A1, c1', rfl, ho1, hb1⟩
      have HG1 := Lib.hid (HG.out.below' hb1)
      have q0 := HG1.out.cell 0
      have q1 := HG1.out.cell 1
      have q2 := HG1.out.cell 2
      have r0 := HG1.out.free 0
      have r1 := HG1.out.free 1
      have r2 := HG1.out.free 2
      have HO1 := Lib.hid (own_mono ho1 hbase)
      have HNE1 := Lib.hid (own_ne' (by decide) HG1.out HO1.out)
      have HA1 : Hid (∀ k, (Value.slice A1 0 c1').ownBlock = some k → w.heap.size ≤ k) := Lib.hid (fun k hk => (ho1.lt k hk).1)
      have HB1 := Lib.hid (HB.out.below hb1)
      have HC1 : Hid (Chg w w1 (Its g (some ⟨b, 0, none⟩))) := Lib.hid (Chg.of_below hb1)
      have hsz := hb1.size
      clear ho1 hb1 c0 c1 c2 f0 f1 f2
      go_wp2_with (at_builtin; refine wpList_append_list _ rfl (.tmp 51) (.tmp 52) 27 rfl base 5 i0 (.int .u8 0) 1 1 Try.underlying27 hi hz0 hz1 hz2 rfl (by decide) (.slice A1 0 c1') 0 _ rfl (ownsRow_setCell_other (a := ⟨g, 2, none⟩) (ownsRow_setCell_other (a := ⟨g, 1, none⟩) (ownsRow_setCell_other (a := ⟨g, 0, none⟩) HO1.out HNE1.out.symm _) HNE1.out.symm _) HNE1.out.symm _) _ B m d _ rfl (((HB1.out.put _ (fun _ h => h)).put _ (fun _ h => h)).put _ (fun _ h => h)) oneCell_bytes (by unfold maxLen; omega) (by omega) (by simp; omega) ?_)
      intro A3 c3 x3 hown3 hgrow3 hat3
      have HG4 := Lib.hid (((HG1.out.put 0 (.slice A1 0 c1') rfl).put 1 (.int .i64 (P2 : Nat)) rfl).put 2 (.int .i64 (G2 : Nat)) rfl)
      have HGx := Lib.hid (HG4.out.grown hgrow3 HNE1.out)
      have q0 := HGx.out.cell 0
      have q1 := HGx.out.free 0
      have HO3 := Lib.hid hown3
      have HC4 := Lib.hid (((HC1.out.put g 0 (.slice A1 0 c1') (.inl rfl)).put g 1 (.int .i64 (P2 : Nat)) (.inl rfl)).put g 2 (.int .i64 (G2 : Nat)) (.inl rfl))
      have HC3 := Lib.hid (HC4.out.grown hgrow3 (fun k hk hk2 => absurd (HA1.out k hk) (by omega)))
      have HAT : Hid (∀ k, A3.map (·.block) = some k → w.heap.size ≤ k) := by
        refine Lib.hid (fun k hk => ?_)
        rcases own_at HO1.out HO3.out hat3 with h | h
        · rw [h] at hk
          refine HA1.out k ?_
          rcases A1 with _ | a1
          · cases hk
          · exact hk
        · rw [h] at hk
          injection hk with hk
          simp at hk
          omega
      clear hown3 hgrow3 hat3 r0 r1 r2 q2
      go_wp2
      go_end0
      have hl1 : (D.drop len ++ bs).length = m := by rw [List.length_append, List.length_drop, HLEN.out, HBL.out]; omega
      have hlt2 := HPp.out
      have hlt3 := HL2.out
      have hlt4 := HP2.out
      have hlt5 := HG2.out
      have hn := HD2.out
      rw [HDN.out, HP2.out] at hn
      refine ⟨rfl, A3, c3, D.drop len ++ bs, P2, G2, ⟨by rw [hl1]; omega, ?_, ?_⟩, ?_, by rw [hl1, HLEN.out, HBL.out]; omega, by omega, by rw [hl1, HLEN.out, HBL.out]; omega, HC3.out.put g 0 _ (.inl rfl), .inr HAT.out⟩
      · rw [hl1]
        exact HGx.out.put 0 _ (by simp)
      · rw [hl1, List.map_append]
        first | rw [List.map_drop] | skip
        exact ownsRow_setCell_other (a := ⟨g, 0, none⟩) HO3.out (own_ne' (by decide) HGx.out HO3.out).symm _
      · rw [hn, show 8 * (D.drop len).length - P2 = 8 * D.length - P by rw [List.length_drop, HLEN.out]; omega]
    · have HDS : Hid (Bs w (fun k => base ≤ k) (some ⟨b, p, none⟩) l2 (D.drop p)) := Lib.hid (by
        have h := (Bs.of_own HO.out).drop (k := p) (by omega)
        rwa [Nat.zero_add, hl2] at h)
      clear hP2 hG2
      go_enter Try.func22, Try.ntmps22
      go_wp2_with fail
      clear hl2
      refine (clone_any _ l2 (c - p) (D.drop p) _ w HDS.out (by omega)).mono ?_
      rintro e w1 ⟨A1, c1', rfl, ho1, hb1⟩
      have HG1 := Lib.hid (HG.out.below' hb1)
      have q0 := HG1.out.cell 0
      have q1 := HG1.out.cell 1
      have q2 := HG1.out.cell 2
      have r0 := HG1.out.free 0
      have r1 := HG1.out.free 1
      have r2 := HG1.out.free 2
      have HO1 := Lib.hid (own_mono ho1 hbase)
      have HNE1 := Lib.hid (own_ne' (by decide) HG1.out HO1.out)
      have HA1 : Hid (∀ k, (Value.slice A1 l2 c1').ownBlock = some k → w.heap.size ≤ k) := Lib.hid (fun k hk => (ho1.lt k hk).1)
      have HB1 := Lib.hid (HB.out.below hb1)
      have HC1 : Hid (Chg w w1 (Its g (some ⟨b, 0, none⟩))) := Lib.hid (Chg.of_below hb1)
      have hsz := hb1.size
      clear ho1 hb1 c0 c1 c2 f0 f1 f2
      go_wp2_with (at_builtin; refine wpList_append_list _ rfl (.tmp 51) (.tmp 52) 27 rfl base 5 i0 (.int .u8 0) 1 1 Try.underlying27 hi hz0 hz1 hz2 rfl (by decide) (.slice A1 l2 c1') l2 _ rfl (ownsRow_setCell_other (a := ⟨g, 2, none⟩) (ownsRow_setCell_other (a := ⟨g, 1, none⟩) (ownsRow_setCell_other (a := ⟨g, 0, none⟩) HO1.out HNE1.out.symm _) HNE1.out.symm _) HNE1.out.symm _) _ B m d _ rfl (((HB1.out.put _ (fun _ h => h)).put _ (fun _ h => h)).put _ (fun _ h => h)) oneCell_bytes (by unfold maxLen; omega) (by omega) (by simp; omega) ?_)
      intro A3 c3 x3 hown3 hgrow3 hat3
      have HG4 := Lib.hid (((HG1.out.put 0 (.slice A1 l2 c1') rfl).put 1 (.int .i64 (P2 : Nat)) rfl).put 2 (.int .i64 (G2 : Nat)) rfl)
      have HGx := Lib.hid (HG4.out.grown hgrow3 HNE1.out)
      have q0 := HGx.out.cell 0
      have q1 := HGx.out.free 0
      have HO3 := Lib.hid hown3
      have HC4 := Lib.hid (((HC1.out.put g 0 (.slice A1 l2 c1') (.inl rfl)).put g 1 (.int .i64 (P2 : Nat)) (.inl rfl)).put g 2 (.int .i64 (G2 : Nat)) (.inl rfl))
      have HC3 := Lib.hid (HC4.out.grown hgrow3 (fun k hk hk2 => absurd (HA1.out k hk) (by omega)))
      have HAT : Hid (∀ k, A3.map (·.block) = some k → w.heap.size ≤ k) := by
        refine Lib.hid (fun k hk => ?_)
        rcases own_at HO1.out HO3.out hat3 with h | h
        · rw [h] at hk
          refine HA1.out k ?_
          rcases A1 with _ | a1
          · cases hk
          · exact hk
        · rw [h] at hk
          injection hk with hk
          simp at hk
          omega
      clear hown3 hgrow3 hat3 r0 r1 r2 q2
      go_wp2
      go_end0
      have hl1 : (D.drop p ++ bs).length = l2 + m := by rw [List.length_append, List.length_drop, HLEN.out, HBL.out, HL2.out]
      have hlt2 := HPp.out
      have hlt3 := HL2.out
      have hlt4 := HP2.out
      have hlt5 := HG2.out
      have hn := HD2.out
      rw [HDN.out, HP2.out] at hn
      refine ⟨rfl, A3, c3, D.drop p ++ bs, P2, G2, ⟨by rw [hl1]; omega, ?_, ?_⟩, ?_, by rw [hl1, HLEN.out, HBL.out]; omega, by omega, by rw [hl1, HLEN.out, HBL.out]; omega, HC3.out.put g 0 _ (.inl rfl), .inr HAT.out⟩
      · rw [hl1]
        exact HGx.out.put 0 _ rfl
      · rw [hl1, List.map_append]
        first | rw [List.map_drop] | skip
        exact ownsRow_setCell_other (a := ⟨g, 0, none⟩) HO3.out (own_ne' (by decide) HGx.out HO3.out).symm _
      · rw [hn, show 8 * (D.drop p).length - P2 = 8 * D.length - P by rw [List.length_drop, HLEN.out]; omega]
  · have d1 : decide ((len : Int) - (p : Int) < (p : Int)) = false := by simp; omega
    go_enter Try.func22, Try.ntmps22
    go_wp2_with (at_builtin; refine wpList_append_list _ rfl (.tmp 51) (.tmp 52) 27 rfl base 5 i0 (.int .u8 0) 1 1 Try.underlying27 hi hz0 hz1 hz2 rfl (by decide) (.slice A len c) len _ rfl HO.out _ B m d _ rfl HB.out oneCell_bytes (by unfold maxLen; omega) (by omega) hbase ?_)
    intro A3 c3 x3 hown3 hgrow3 hat3
    have HGx := Lib.hid (HG.out.grown hgrow3 HNE.out)
    have q0 := HGx.out.cell 0
    have q1 := HGx.out.free 0
    have HO3 := Lib.hid hown3
    have HC3 : Hid (Chg w x3 (Its g A)) := Lib.hid ((Chg.refl w _).grown hgrow3 (fun b hb2 hb3 => .inr (by cases A with | none => cases hb2 | some a => injection hb2 with hb2; simp [hb2])))
    have HAT := Lib.hid hat3
    clear hown3 hgrow3 hat3
    go_wp2
    go_end0
    have hl1 : (D ++ bs).length = len + m := by rw [List.length_append, HLEN.out, HBL.out]
    refine ⟨rfl, A3, c3, D ++ bs, P, G, ⟨by rw [hl1]; omega, ?_, ?_⟩, HN.out, by rw [hl1, HLEN.out, HBL.out]; omega, rfl, by rw [hl1, HLEN.out, HBL.out]; omega, HC3.out.put g 0 _ (.inl rfl), ?_⟩
    · rw [hl1]
      exact HGx.out.put 0 _ rfl
    · rw [hl1, List.map_append]
      exact ownsRow_setCell_other (a := ⟨g, 0, none⟩) HO3.out (own_ne' (by decide) HGx.out HO3.out).symm _
    · rcases own_at HO.out HO3.out HAT.out with h | h
      · exact .inl h
      · exact .inr (fun k hk => by rw [h] at hk; injection hk with hk; simp at hk; omega)
end Go.Proofs.Ythpbiakjkmhfeaa
