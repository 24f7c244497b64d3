/- The reader of bits: Rest; the page's example. -/
import Derived.Test.YthkhmkaebhgjbaaB3
namespace Go.Proofs.Ythkhmkaebhgjbaa
open Go.RowKit

def Rest (w : World) (xs : List UInt8) (n : Nat) (e : Ending) (w' : World) : Prop :=
  ∃ A' c', e = .returned (.slice A' n c') ∧ w'.ownsRow w.heap.size 5 1 (.slice A' n c') n (xs.map bv) ∧ Below w.heap.size w w'
set_option maxHeartbeats 1000000 in
theorem rest_any (base g : Nat) (A : Option Addr) (c : Nat) (D : List UInt8) (P G : Nat) (w : World) (hR : Rd w base g A c D P G) (hD : D.length ≤ 1000000) :
    Calls Try.prog 10 #[.pointer (some ⟨g, 0, none⟩)] w (Rest w (leB (num D / 2 ^ P / 2 ^ ((8 * D.length - P) % 8)) ((8 * D.length - P) / 8)) ((8 * D.length - P) / 8)) := by
  have hrn := rest_num D P hR.1
  rw [← hrn]
  obtain ⟨hP, hg, hO⟩ := hR
  have c0 := hg.cell 0
  have c1 := hg.cell 1
  obtain ⟨q, hq⟩ : ∃ q, (P + 7) / 8 = q := ⟨_, rfl⟩
  have hq' : ((P : Int) + 7) / 8 = (q : Nat) := by omega
  have W0 : IntKind.i64.wrap ((P : Int) + 7) = (P : Int) + 7 := IntWalk.i64_in _ (by omega)
  have W2 : ((P : Int) + 7).tdiv 8 = (q : Nat) := by rw [Int.tdiv_eq_ediv_of_nonneg (by omega)]; exact hq'
  have W3 : IntKind.i64.wrap 0 = 0 := IntWalk.i64_in _ (by omega)
  have W1 : IntKind.i64.wrap (q : Int) = q := IntWalk.i64_in _ (by omega)
  obtain ⟨len, hlen⟩ : ∃ len, D.length = len := ⟨_, rfl⟩
  obtain ⟨k, hk⟩ : ∃ k, (8 * D.length - P) / 8 = k := ⟨_, rfl⟩
  have hk2 : len - q = k := by omega
  rw [hk, hq]
  have HK2 := Lib.hid hk2
  have HO := Lib.hid hO
  have HLEN := Lib.hid hlen
  rw [hlen] at c0 hP hD HO
  have hql : q ≤ len := by omega
  clear hg hO hlen hk hq hrn
  have hcap : A = none ∧ len = 0 ∨ ∃ b, A = some ⟨b, 0, none⟩ ∧ len ≤ c := by
    rcases HO.out.2 with ⟨h1, h2⟩ | ⟨b, cap, cur, h1, _, _, h2, _⟩
    · injection h1 with h1
      exact .inl ⟨h1, h2⟩
    · injection h1 with h1 _ h3
      exact .inr ⟨b, h1, by omega⟩
  by_cases hz : len = q
  · obtain rfl : k = 0 := by omega
    have hds : D.drop q = [] := List.drop_eq_nil_of_le (by rw [HLEN.out]; omega)
    rw [hds]
    clear hds
    subst hz
    rcases hcap with ⟨rfl, rfl⟩ | ⟨b, rfl, hc⟩
    · clear hk2
      go_enter Try.func10, Try.ntmps10
      go_wp2
      refine wp_region_tail 11 (by kernel_rfl) (by kernel_rfl) ?_
      simp only [List.take_succ_cons, List.take_zero, List.drop_succ_cons, List.drop_zero]
      repeat still_step
      refine wpStill_nil ?_
      go_wp2_with fail
      refine (clone_any none 0 c [] (fun _ => True) _ (Bs.empty _ _ _) (by omega)).mono ?_
      rintro e w1 ⟨A1, c1, rfl, hO1, hb1⟩
      have HO1 := Lib.hid hO1
      have HB1 := Lib.hid hb1
      clear hO1 hb1
      go_wp2
      go_ret
      exact ⟨A1, c1, rfl, HO1.out, (((Below.refl w.heap.size w).drew).trans HB1.out)⟩
    · by_cases hcp : c = len
      · subst hcp
        clear hk2
        go_enter Try.func10, Try.ntmps10
        go_wp2
        refine wp_region_tail 11 (by kernel_rfl) (by kernel_rfl) ?_
        simp only [List.take_succ_cons, List.take_zero, List.drop_succ_cons, List.drop_zero]
        repeat still_step
        refine wpStill_nil ?_
        go_wp2_with fail
        refine (clone_any _ 0 0 [] (fun _ => True) _ (Bs.empty _ _ _) (by omega)).mono ?_
        rintro e w1 ⟨A1, c1, rfl, hO1, hb1⟩
        have HO1 := Lib.hid hO1
        have HB1 := Lib.hid hb1
        clear hO1 hb1
        go_wp2
        go_ret
        exact ⟨A1, c1, rfl, HO1.out, (((Below.refl w.heap.size w).drew).trans HB1.out)⟩
      · clear hk2
        go_enter Try.func10, Try.ntmps10
        go_wp2
        refine wp_region_tail 11 (by kernel_rfl) (by kernel_rfl) ?_
        simp only [List.take_succ_cons, List.take_zero, List.drop_succ_cons, List.drop_zero]
        repeat still_step
        refine wpStill_nil ?_
        go_wp2_with fail
        refine (clone_any _ 0 _ [] (fun _ => True) _ (Bs.empty _ _ _) (by omega)).mono ?_
        rintro e w1 ⟨A1, c1, rfl, hO1, hb1⟩
        have HO1 := Lib.hid hO1
        have HB1 := Lib.hid hb1
        clear hO1 hb1
        go_wp2
        go_ret
        exact ⟨A1, c1, rfl, HO1.out, (((Below.refl w.heap.size w).drew).trans HB1.out)⟩
  · rcases hcap with ⟨rfl, rfl⟩ | ⟨b, rfl, hc⟩
    · omega
    · have hcp : ¬ c = q := by omega
      have hB1 := (Bs.of_own HO.out).drop (k := q) (by omega)
      rw [Nat.zero_add, hk2] at hB1
      have HB1 := Lib.hid hB1
      clear hB1
      go_enter Try.func10, Try.ntmps10
      go_wp2
      refine wp_region_tail 11 (by kernel_rfl) (by kernel_rfl) ?_
      simp only [List.take_succ_cons, List.take_zero, List.drop_succ_cons, List.drop_zero]
      repeat still_step
      refine wpStill_nil ?_
      go_wp2_with fail
      clear hk2
      refine (clone_any _ k _ (D.drop q) _ _ (Lst.drew HB1.out) (by have := HK2.out; omega)).mono ?_
      rintro e w1 ⟨A1, c1, rfl, hO1, hb1⟩
      have HO1 := Lib.hid hO1
      have HB1 := Lib.hid hb1
      clear hO1 hb1
      go_wp2
      go_ret
      exact ⟨A1, c1, rfl, HO1.out, (((Below.refl w.heap.size w).drew).trans HB1.out)⟩
theorem two_rest (base g1 g2 U1 l1 t1 F1 U2 l2 t2 F2 : Nat) (w : World) (hT : Two w base g1 g2 U1 l1 t1 F1 U2 l2 t2 F2) (hF : F2 ≤ 1000000) :
    Calls Try.prog 10 #[.pointer (some ⟨g2, 0, none⟩)] w (Rest w (leB (U2 / 2 ^ (l2 % 8)) (l2 / 8)) (l2 / 8)) := by
  obtain ⟨A1, A2, h1, ⟨c, D, P, G, hR, e1, e2, e3, e4⟩, h3, h4⟩ := hT
  have := rest_any base g2 A2 c D P G w hR (by omega)
  rwa [e1, e2] at this
theorem Rd.below {w w' : World} {base g c P G : Nat} {A : Option Addr} {D : List UInt8} (h : Rd w base g A c D P G) (hb : Below w.heap.size w w') : Rd w' base g A c D P G :=
  ⟨h.1, h.2.1.below' hb, own_chg h.2.2 (Chg.of_below (S := fun _ => False) hb) (fun _ _ h => h)⟩
theorem awake_any (w : World) : Calls Try.prog 4 #[] w fun e w' => e = .returned (.bool true) ∧ Below w.heap.size w w' := by
  go_enter Try.func4, Try.ntmps4
  go_wp2_with fail
  refine (newrd_any w).mono ?_
  rintro e w1 ⟨rfl, rfl⟩
  have HR := Lib.hid (new_rd w w.heap.size)
  have HB := Lib.hid ((Below.refl w.heap.size w).alloc (Nat.le_refl _) (.cells #[.slice none 0 0, .int .i64 0, .int .i64 0] 34))
  have hpn : ∀ w', (binOp .eql 24 (.pointer (some ⟨w.heap.size, 0, none⟩)) (.pointer none)).run Try.prog w' = .ok (.bool false) w' := fun w' => by kernel_rfl
  generalize w.alloc (.cells #[.slice none 0 0, .int .i64 0, .int .i64 0] 34) = w1 at *
  go_wp2_with fail
  have HR2 : Hid (Rd (w1.alloc (.cells #[.int .u8 178] 5)) w.heap.size w.heap.size none 0 [] 0 0) := Lib.hid (HR.out.below ((Below.refl _ _).alloc (Nat.le_refl _) _))
  have HB2 := Lib.hid (HB.out.alloc HB.out.size (.cells #[.int .u8 178] 5))
  have HL : Hid (Bs (w1.alloc (.cells #[.int .u8 178] 5)) (fun b => b ≠ w.heap.size) (some ⟨w1.heap.size, 0, none⟩) 1 [178]) := Lib.hid ((Lst.new w1 5 #[.int .u8 178] 1 rfl rfl).mono (fun b hb => by have := HR.out.2.1.lt; omega))
  refine (feed_any w.heap.size w.heap.size none 0 [] 0 0 _ 1 1 [178] _ HR2.out HL.out (by simp) (by omega) (by omega) (by have := HB.out.size; simp; omega)).mono ?_
  rintro e w2 ⟨rfl, A', c', D', P', G', hR', i1, i2, i3, i4, hC, hA⟩
  have HB3 := Lib.hid (Chg.below HB2.out hC (fun k hk h => by rcases h with h | h; omega; cases h) HB2.out.size)
  have i1' : num D' / 2 ^ P' = 178 := by simpa [num] using i1
  have hl8 : 8 * D'.length - P' = 8 := by simpa using i2
  have HD : Hid (D'.length ≤ 1) := Lib.hid (by simpa using i4)
  have HR3 := Lib.hid hR'
  have HN1 := Lib.hid i1'
  have HL8 := Lib.hid hl8
  clear hR' i1 i2 i3 i4 hC hA i1' hl8 HR2 HL HB2 HR HB
  go_wp2_with fail
  refine (bits_yes w.heap.size w.heap.size A' c' D' P' G' 3 _ HR3.out (by have := HD.out; omega) (by omega) (by have := HL8.out; omega)).mono ?_
  rintro e w3 ⟨rfl, hR4, hC4⟩
  rw [HN1.out]
  have HR4 := Lib.hid hR4
  have HB4 := Lib.hid (Chg.below HB3.out hC4 (fun k hk h => by omega) HB3.out.size)
  have HN2 : Hid (num D' / 2 ^ (P' + 3) = 22) := Lib.hid (by rw [Nat.pow_add, ← Nat.div_div_eq_div_mul, HN1.out])
  clear hR4 hC4
  go_wp2_with fail
  refine (bits_yes w.heap.size w.heap.size A' c' D' (P' + 3) G' 5 _ HR4.out (by have := HD.out; omega) (by omega) (by have := HL8.out; omega)).mono ?_
  rintro e w4 ⟨rfl, hR5, hC5⟩
  rw [HN2.out]
  have HB5 := Lib.hid (Chg.below HB4.out hC5 (fun k hk h => by omega) HB4.out.size)
  clear hR5 hC5
  go_wp2
  go_ret
  exact ⟨rfl, HB5.out⟩
end Go.Proofs.Ythkhmkaebhgjbaa
