/- BitinPieces: the law itself. -/
import Derived.Test.YthkhmkaebhgjbaaB5
import Derived.Test.YthkhmkaebhgjbaaSoft
namespace Go.Proofs.Ythkhmkaebhgjbaa
open Go.RowKit

theorem str_of {w : World} {S : Nat → Prop} {A : Option Addr} {n : Nat} {bs : List UInt8} (c : Nat) (h : Bs w S A n bs) : (convert 22 9 (.slice A n c)).run Try.prog w = .ok (.string ⟨bs.toArray⟩) w :=
  run_string_bs 22 9 5 c Try.underlying22 Try.underlying5 Try.underlying9 h
theorem Two.below {w w' : World} {base g1 g2 U1 l1 t1 F1 U2 l2 t2 F2 : Nat} (h : Two w base g1 g2 U1 l1 t1 F1 U2 l2 t2 F2) (hb : Below w.heap.size w w') : Two w' base g1 g2 U1 l1 t1 F1 U2 l2 t2 F2 := by
  obtain ⟨A1, A2, h1, h2, h3⟩ := h
  exact ⟨A1, A2, h1.chg (Chg.of_below (S := fun _ => False) hb) (fun h => h) (fun _ _ h => h), h2.chg (Chg.of_below (S := fun _ => False) hb) (fun h => h) (fun _ _ h => h), h3⟩
theorem calls_below {f : FuncId} {args : Array Value} {v : Value} {w : World} (h : Calls Try.prog f args w fun e w' => e = .returned v ∧ ∃ m, w' = w.drewN m) : Calls Try.prog f args w fun e w' => e = .returned v ∧ Below w.heap.size w w' :=
  h.mono fun _ _ ⟨h1, m, h2⟩ => ⟨h1, h2 ▸ (Below.refl _ _).drewN' m⟩
theorem firm_bs {S : Nat → Prop} {A : Option Addr} {n : Nat} {bs : List UInt8} : Firm fun w => Bs w S A n bs := fun _ _ h he => Bs.below h he
theorem bs_add {w : World} {S : Nat → Prop} {A : Option Addr} {n : Nat} {bs : List UInt8} (h : Bs w S A n bs) {k : Nat} (hk : k ≤ n) : Bs w S (A.map (fun x => x.add k)) (n - k) (bs.drop k) := by
  by_cases hz : n - k = 0
  · rw [hz, List.drop_eq_nil_of_le (by rw [h.len]; omega)]
    exact Bs.empty _ _ _
  · obtain ⟨b, off, rfl, _⟩ := h.2 (by omega)
    have h2 := h.drop hk
    rw [Option.map_some, addr_add]
    exact h2
set_option maxRecDepth 100000 in
set_option maxHeartbeats 8000000 in
theorem pieces_law (A B C : Option Addr) (n m p c d f : Nat) (b cs ns : List UInt8) (W : World) (hb : Bs W (fun b => b < W.heap.size) A n b) (hcs : Bs W (fun b => b < W.heap.size) B m cs) (hns : Bs W (fun b => b < W.heap.size) C p ns)
    (hnc : n ≤ c) (hc : c ≤ 9223372036854775807) :
    Calls Try.prog 3 #[.slice A n c, .slice B m d, .slice C p f] W fun e w' => e = .returned (.bool true) ∧ Below W.heap.size W w' := by
  have HLb := Lib.hid hb.len
  have HBb := Lib.hid hb
  have HCS := Lib.hid hcs
  have HNS := Lib.hid hns
  clear hb hcs hns
  go_enter Try.func3, Try.ntmps3
  go_wp2_with fail
  refine (awake_any _).mono ?_
  rintro e w1 ⟨rfl, hb1⟩
  have HB := Lib.hid hb1
  clear hb1
  by_cases h1 : 200 < n
  · have d1 : decide ((200 : Int) < (n : Int)) = true := by simp; omega
    go_wp2
    go_ret
    exact ⟨rfl, HB.out⟩
  have d1 : decide ((200 : Int) < (n : Int)) = false := by simp; omega
  by_cases h2 : 100 < p
  · have d2 : decide ((100 : Int) < (p : Int)) = true := by simp; omega
    go_wp2
    go_ret
    exact ⟨rfl, HB.out⟩
  have d2 : decide ((100 : Int) < (p : Int)) = false := by simp; omega
  by_cases h3 : 100 < m
  · have d3 : decide ((100 : Int) < (m : Int)) = true := by simp; omega
    go_wp2
    go_ret
    exact ⟨rfl, HB.out⟩
  have d3 : decide ((100 : Int) < (m : Int)) = false := by simp; omega
  go_wp2_with fail
  refine (newrd_any w1).mono ?_
  rintro e w2 ⟨rfl, rfl⟩
  obtain ⟨g1, hg1⟩ : ∃ g, w1.heap.size = g := ⟨_, rfl⟩
  have hgW : W.heap.size ≤ g1 := by have := HB.out.size; omega
  have hw := Whole.new w1 34 #[.slice none 0 0, .int .i64 0, .int .i64 0] hg1.symm
  have HB := Lib.hid (HB.out.alloc HB.out.size (.cells #[.slice none 0 0, .int .i64 0, .int .i64 0] 34))
  rw [hg1]
  clear hg1
  have hg1 := hgW
  clear hgW
  generalize w1.alloc (.cells #[.slice none 0 0, .int .i64 0, .int .i64 0] 34) = w2 at *
  have HW := Lib.hid hw
  clear hw
  go_wp2_with fail
  refine (newrd_any w2).mono ?_
  rintro e w3 ⟨rfl, rfl⟩
  obtain ⟨g2, hg2'⟩ : ∃ g, w2.heap.size = g := ⟨_, rfl⟩
  have hw2 := Whole.new w2 34 #[.slice none 0 0, .int .i64 0, .int .i64 0] hg2'.symm
  have hne : g1 ≠ g2 := by have := HW.out.lt; omega
  have hw1 := HW.out.alloc (.cells #[.slice none 0 0, .int .i64 0, .int .i64 0] 34)
  rw [hg2']
  have hg2 : W.heap.size ≤ g2 := by have := HB.out.size; omega
  have HB := Lib.hid (HB.out.alloc HB.out.size (.cells #[.slice none 0 0, .int .i64 0, .int .i64 0] 34))
  have HT : Hid (Two (w2.alloc (.cells #[.slice none 0 0, .int .i64 0, .int .i64 0] 34)) W.heap.size g2 g1 0 0 0 0 0 0 0 0) := Lib.hid ⟨none, none, ⟨0, [], 0, 0, ⟨by simp, hw2, World.ownsRow_nil _ _ _ _⟩, rfl, rfl, rfl, by simp⟩, ⟨0, [], 0, 0, ⟨by simp, hw1, World.ownsRow_nil _ _ _ _⟩, rfl, rfl, rfl, by simp⟩, hne.symm, fun k h _ => by cases h⟩
  generalize w2.alloc (.cells #[.slice none 0 0, .int .i64 0, .int .i64 0] 34) = w3 at *
  clear hw1 hw2 hg2' HW
  go_wp2_with fail
  refine (two_feed _ g2 g1 _ _ _ _ _ _ _ _ A n c b w3 HT.out ((HBb.out.below HB.out).mono (fun k hk => by omega)) (by omega) (by omega) (by omega) hg1 HB.out.size).mono ?_
  rintro e w4 ⟨rfl, h, hb1⟩
  have HB := Lib.hid (HB.out.trans hb1)
  have HA : Hid (Amid w4 W.heap.size g1 g2 b n 0 0) := Lib.hid (by
    have h := h.symm
    unfold Amid
    simpa [num] using h)
  have NIL : Hid (Bs W (fun b => b < W.heap.size) none (n - n) (b.drop n)) := Lib.hid (by
    rw [Nat.sub_self, List.drop_eq_nil_of_le (by rw [HLb.out]; exact Nat.le_refl _)]
    exact Bs.empty _ _ _)
  clear h hb1 HT d1 d2 d3
  go_wp2
  go_loopw [9, 10] (fun r i wr => ∃ (j q t : Nat) (A' : Option Addr) (c' : Nat), j ≤ p ∧ i = .int .i64 (j : Nat) ∧ r = .slice A' (n - q) c' ∧ q ≤ n ∧ t ≤ 8 * q ∧ n - q ≤ c' ∧ c' ≤ 9223372036854775807 ∧ Hid (Bs W (fun b => b < W.heap.size) A' (n - q) (b.drop q)) ∧ Hid (Amid wr W.heap.size g1 g2 b n q t) ∧ Hid (Below W.heap.size W wr)) (fun _ i _ => p - (intOf i).toNat)
  case atStart => exact ⟨0, 0, 0, A, c, Nat.zero_le _, rfl, rfl, Nat.zero_le _, Nat.zero_le _, hnc, hc, HBb, HA, HB⟩
  case round =>
    obtain ⟨j, q, t, A', c', hj, rfl, rfl, hqn, htq, hqc, hcc, HRS0, HA, HB⟩ := hrel
    by_cases hlt : j < p
    · obtain ⟨b3, o3, hC3, hl3, _, hy⟩ := (HNS.out.below HB.out).at_ hlt
      subst hC3
      obtain ⟨y, hy1⟩ : ∃ y : Nat, (ns.getD j 0).toNat = y := ⟨_, rfl⟩
      have hyc : wr.cell? ⟨b3, o3 + j, none⟩ = some (.int .u8 (y : Nat)) := by rw [← hy1]; exact hy
      have hy256 : y < 256 := by rw [← hy1]; exact (ns.getD j 0).toNat_lt
      obtain ⟨kk, hkk⟩ : ∃ kk, y % 33 = kk := ⟨_, rfl⟩
      have hkk' : (y : Int) % 33 = (kk : Nat) := by omega
      have hk32 : kk ≤ 32 := by omega
      clear hy hy1 hkk
      by_cases hjm : j < m
      · have dj : decide ((j : Int) < (m : Int)) = true := by simp; omega
        obtain ⟨b4, o4, hC4, hl4, _, hz⟩ := (HCS.out.below HB.out).at_ hjm
        subst hC4
        obtain ⟨z, hz1⟩ : ∃ z : Nat, (cs.getD j 0).toNat = z := ⟨_, rfl⟩
        have hzc : wr.cell? ⟨b4, o4 + j, none⟩ = some (.int .u8 (z : Nat)) := by rw [← hz1]; exact hz
        have hz256 : z < 256 := by rw [← hz1]; exact (cs.getD j 0).toNat_lt
        obtain ⟨z9, hz9⟩ : ∃ z9, z % 9 = z9 := ⟨_, rfl⟩
        have hz9' : (z : Int) % 9 = (z9 : Nat) := by omega
        have HZ9 : z9 < 9 := by omega
        obtain ⟨rl, hrl⟩ : ∃ rl, n - q = rl := ⟨_, rfl⟩
        obtain ⟨a, ha⟩ : ∃ a, min z9 rl = a := ⟨_, rfl⟩
        have ha' : (if rl < z9 then (rl : Int) else (z9 : Int)) = (a : Nat) := by rw [← ha]; split <;> omega
        rw [hrl] at HRS0 hqc ⊢
        have hal : a ≤ rl := by omega
        clear hz hz1 hz9 ha
        have i1 : (a : Int) ≤ (c' : Int) := by omega
        by_cases hcp : c' = a
        · have HRL : Hid (rl = a) := Lib.hid (by omega)
          go_wp2_with fail
          refine (amid_feed _ g1 g2 b n q t A' a a _ HA.out HLb.out (by
            have h := (HRS0.out.below HB.out).take (k := a) hal
            exact h) (by omega) htq (by omega) hg2 HB.out.size).mono ?_
          rintro e w1 ⟨rfl, h, hb1⟩
          have HA := Lib.hid h
          have HB := Lib.hid (HB.out.trans hb1)
          clear h hb1
          go_wp2_with fail
          have HRS : Hid (Bs W (fun b => b < W.heap.size) A' (rl - a) (b.drop (q + a))) := Lib.hid (by
            rw [show rl - a = 0 by have := HRL.out; omega, List.drop_eq_nil_of_le (by rw [HLb.out]; have := HRL.out; omega)]
            exact Bs.empty _ _ _)
          clear HRS0 hcp i1 hqc ha'
          have HLEN : Hid (n - (q + a) = rl - a) := Lib.hid (by omega)
          refine (amid_left _ g1 g2 b n (q + a) t _ HA.out (by omega)).mono ?_
          rintro e w1 ⟨rfl, h, hb1⟩
          have HA := Lib.hid h
          have HB := Lib.hid (HB.out.trans hb1)
          clear h hb1
          obtain ⟨lf, hlf⟩ : ∃ lf, 8 * (q + a) - t = lf := ⟨_, rfl⟩
          rw [hlf]
          by_cases hlk : lf < kk
          · have dl : decide ((lf : Int) < (kk : Int)) = true := by simp; omega
            have HLF := Lib.hid hlf
            clear hlf
            go_wp2_with fail
            refine (amid_feed _ g1 g2 b n (q + a) t A' (rl - a) (0) _ HA.out HLb.out (by
              rw [List.take_of_length_le (by rw [List.length_drop, HLb.out, HLEN.out]; exact Nat.le_refl _)]
              exact HRS.out.below HB.out) (by have := HLEN.out; have := HRL.out; omega) (by have := HLF.out; omega) (by omega) hg2 HB.out.size).mono ?_
            rintro e w1 ⟨rfl, h, hb1⟩
            rw [show q + a + (rl - a) = n by have := HLEN.out; have := HRL.out; omega] at h
            have HA := Lib.hid h
            have HB := Lib.hid (HB.out.trans hb1)
            clear h hb1
            by_cases hbk : kk ≤ 8 * (n) - t
            · have HQq : n ≤ n := by omega
              go_wp2_with fail
              refine (amid_one _ g1 g2 b n (n) t kk _ HA.out HLb.out (by omega) (by omega) (by omega) hk32 hbk hg1 HB.out.size).mono ?_
              rintro e w1 ⟨rfl, h, hb1⟩
              have HA := Lib.hid h
              have HB := Lib.hid (HB.out.trans hb1)
              clear h hb1
              go_wp2_with fail
              refine (half_two _ g1 g2 b n (n) t kk _ HA.out HLb.out (by omega) (by omega) (by omega) hk32 hbk hg2 HB.out.size).mono ?_
              rintro e w1 ⟨rfl, h, hb1⟩
              have HA := Lib.hid h
              have HB := Lib.hid (HB.out.trans hb1)
              clear h hb1
              go_wp2_with fail
              refine (amid_at1 _ g1 g2 b n (n) (t + kk) _ HA.out (by omega)).mono ?_
              rintro e w1 ⟨rfl, h, hb1⟩
              have HA := Lib.hid h
              have HB := Lib.hid (HB.out.trans hb1)
              clear h hb1
              go_wp2_with fail
              refine (amid_at2 _ g1 g2 b n (n) (t + kk) _ HA.out (by omega)).mono ?_
              rintro e w1 ⟨rfl, h, hb1⟩
              have HA := Lib.hid h
              have HB := Lib.hid (HB.out.trans hb1)
              clear h hb1
              go_wp2
              exact ⟨⟨j + 1, n, t + kk, none, 0, by omega, by go_num, by simp, by omega, by omega, by omega, by omega, NIL, HA, HB⟩, by simp [intOf]; omega⟩
            · have HQn : n = n := by omega
              go_wp2_with fail
              refine (amid_none1 _ g1 g2 b n (n) t kk _ HA.out (by omega) hk32 (by omega)).mono ?_
              rintro e w1 ⟨rfl, h, hb1⟩
              have HA := Lib.hid h
              have HB := Lib.hid (HB.out.trans hb1)
              clear h hb1
              go_wp2_with fail
              refine (amid_none2 _ g1 g2 b n (n) t kk _ HA.out (by omega) (by omega) hk32 (by omega)).mono ?_
              rintro e w1 ⟨rfl, h, hb1⟩
              have HA := Lib.hid h
              have HB := Lib.hid (HB.out.trans hb1)
              clear h hb1
              go_wp2_with fail
              refine (amid_at1 _ g1 g2 b n (n) t _ HA.out (by omega)).mono ?_
              rintro e w1 ⟨rfl, h, hb1⟩
              have HA := Lib.hid h
              have HB := Lib.hid (HB.out.trans hb1)
              clear h hb1
              go_wp2_with fail
              refine (amid_at2 _ g1 g2 b n (n) t _ HA.out (by omega)).mono ?_
              rintro e w1 ⟨rfl, h, hb1⟩
              have HA := Lib.hid h
              have HB := Lib.hid (HB.out.trans hb1)
              clear h hb1
              go_wp2
              exact ⟨⟨j + 1, n, t, none, 0, by omega, by go_num, by simp, by omega, by omega, by omega, by omega, NIL, HA, HB⟩, by simp [intOf]; omega⟩
          · have dl : decide ((lf : Int) < (kk : Int)) = false := by simp; omega
            have hqf : kk ≤ 8 * (q + a) - t := by omega
            by_cases hbk : kk ≤ 8 * (q + a) - t
            · have HQq : q + a ≤ n := by omega
              go_wp2_with fail
              refine (amid_one _ g1 g2 b n (q + a) t kk _ HA.out HLb.out (by omega) (by omega) (by omega) hk32 hbk hg1 HB.out.size).mono ?_
              rintro e w1 ⟨rfl, h, hb1⟩
              have HA := Lib.hid h
              have HB := Lib.hid (HB.out.trans hb1)
              clear h hb1
              go_wp2_with fail
              refine (half_two _ g1 g2 b n (q + a) t kk _ HA.out HLb.out (by omega) (by omega) (by omega) hk32 hbk hg2 HB.out.size).mono ?_
              rintro e w1 ⟨rfl, h, hb1⟩
              have HA := Lib.hid h
              have HB := Lib.hid (HB.out.trans hb1)
              clear h hb1
              go_wp2_with fail
              refine (amid_at1 _ g1 g2 b n (q + a) (t + kk) _ HA.out (by omega)).mono ?_
              rintro e w1 ⟨rfl, h, hb1⟩
              have HA := Lib.hid h
              have HB := Lib.hid (HB.out.trans hb1)
              clear h hb1
              go_wp2_with fail
              refine (amid_at2 _ g1 g2 b n (q + a) (t + kk) _ HA.out (by omega)).mono ?_
              rintro e w1 ⟨rfl, h, hb1⟩
              have HA := Lib.hid h
              have HB := Lib.hid (HB.out.trans hb1)
              clear h hb1
              go_wp2
              exact ⟨⟨j + 1, q + a, t + kk, A', 0, by omega, by go_num, by rw [HLEN.out], by omega, by omega, by have := HLEN.out; have := HRL.out; omega, by omega, (by rw [HLEN.out]; exact HRS), HA, HB⟩, by simp [intOf]; omega⟩
            · have HQn : q + a = n := by omega
              go_wp2_with fail
              refine (amid_none1 _ g1 g2 b n (q + a) t kk _ HA.out (by omega) hk32 (by omega)).mono ?_
              rintro e w1 ⟨rfl, h, hb1⟩
              have HA := Lib.hid h
              have HB := Lib.hid (HB.out.trans hb1)
              clear h hb1
              go_wp2_with fail
              refine (amid_none2 _ g1 g2 b n (q + a) t kk _ HA.out (by omega) (by omega) hk32 (by omega)).mono ?_
              rintro e w1 ⟨rfl, h, hb1⟩
              have HA := Lib.hid h
              have HB := Lib.hid (HB.out.trans hb1)
              clear h hb1
              go_wp2_with fail
              refine (amid_at1 _ g1 g2 b n (q + a) t _ HA.out (by omega)).mono ?_
              rintro e w1 ⟨rfl, h, hb1⟩
              have HA := Lib.hid h
              have HB := Lib.hid (HB.out.trans hb1)
              clear h hb1
              go_wp2_with fail
              refine (amid_at2 _ g1 g2 b n (q + a) t _ HA.out (by omega)).mono ?_
              rintro e w1 ⟨rfl, h, hb1⟩
              have HA := Lib.hid h
              have HB := Lib.hid (HB.out.trans hb1)
              clear h hb1
              go_wp2
              exact ⟨⟨j + 1, q + a, t, A', 0, by omega, by go_num, by rw [HLEN.out], by omega, by omega, by have := HLEN.out; have := HRL.out; omega, by omega, (by rw [HLEN.out]; exact HRS), HA, HB⟩, by simp [intOf]; omega⟩
        · have hcp' : ¬ a = c' := fun h => hcp h.symm
          go_wp2_with fail
          refine (amid_feed _ g1 g2 b n q t A' a c' _ HA.out HLb.out (by
            have h := (HRS0.out.below HB.out).take (k := a) hal
            exact h) (by omega) htq (by omega) hg2 HB.out.size).mono ?_
          rintro e w1 ⟨rfl, h, hb1⟩
          have HA := Lib.hid h
          have HB := Lib.hid (HB.out.trans hb1)
          clear h hb1
          go_wp2_with fail
          have HRS : Hid (Bs W (fun b => b < W.heap.size) (A'.map (fun x => x.add a)) (rl - a) (b.drop (q + a))) := Lib.hid (by
            have h := bs_add HRS0.out (k := a) hal
            rwa [List.drop_drop] at h)
          clear HRS0
          have HLEN : Hid (n - (q + a) = rl - a) := Lib.hid (by omega)
          refine (amid_left _ g1 g2 b n (q + a) t _ HA.out (by omega)).mono ?_
          rintro e w1 ⟨rfl, h, hb1⟩
          have HA := Lib.hid h
          have HB := Lib.hid (HB.out.trans hb1)
          clear h hb1
          obtain ⟨lf, hlf⟩ : ∃ lf, 8 * (q + a) - t = lf := ⟨_, rfl⟩
          rw [hlf]
          by_cases hlk : lf < kk
          · have dl : decide ((lf : Int) < (kk : Int)) = true := by simp; omega
            have HLF := Lib.hid hlf
            clear hlf
            go_wp2_with fail
            refine (amid_feed _ g1 g2 b n (q + a) t (A'.map (fun x => x.add a)) (rl - a) (c' - a) _ HA.out HLb.out (by
              rw [List.take_of_length_le (by rw [List.length_drop, HLb.out, HLEN.out]; exact Nat.le_refl _)]
              exact HRS.out.below HB.out) (by have := HLEN.out; omega) (by have := HLF.out; omega) (by omega) hg2 HB.out.size).mono ?_
            rintro e w1 ⟨rfl, h, hb1⟩
            rw [show q + a + (rl - a) = n by have := HLEN.out; omega] at h
            have HA := Lib.hid h
            have HB := Lib.hid (HB.out.trans hb1)
            clear h hb1
            by_cases hbk : kk ≤ 8 * (n) - t
            · have HQq : n ≤ n := by omega
              go_wp2_with fail
              refine (amid_one _ g1 g2 b n (n) t kk _ HA.out HLb.out (by omega) (by omega) (by omega) hk32 hbk hg1 HB.out.size).mono ?_
              rintro e w1 ⟨rfl, h, hb1⟩
              have HA := Lib.hid h
              have HB := Lib.hid (HB.out.trans hb1)
              clear h hb1
              go_wp2_with fail
              refine (half_two _ g1 g2 b n (n) t kk _ HA.out HLb.out (by omega) (by omega) (by omega) hk32 hbk hg2 HB.out.size).mono ?_
              rintro e w1 ⟨rfl, h, hb1⟩
              have HA := Lib.hid h
              have HB := Lib.hid (HB.out.trans hb1)
              clear h hb1
              go_wp2_with fail
              refine (amid_at1 _ g1 g2 b n (n) (t + kk) _ HA.out (by omega)).mono ?_
              rintro e w1 ⟨rfl, h, hb1⟩
              have HA := Lib.hid h
              have HB := Lib.hid (HB.out.trans hb1)
              clear h hb1
              go_wp2_with fail
              refine (amid_at2 _ g1 g2 b n (n) (t + kk) _ HA.out (by omega)).mono ?_
              rintro e w1 ⟨rfl, h, hb1⟩
              have HA := Lib.hid h
              have HB := Lib.hid (HB.out.trans hb1)
              clear h hb1
              go_wp2
              exact ⟨⟨j + 1, n, t + kk, none, 0, by omega, by go_num, by simp, by omega, by omega, by omega, by omega, NIL, HA, HB⟩, by simp [intOf]; omega⟩
            · have HQn : n = n := by omega
              go_wp2_with fail
              refine (amid_none1 _ g1 g2 b n (n) t kk _ HA.out (by omega) hk32 (by omega)).mono ?_
              rintro e w1 ⟨rfl, h, hb1⟩
              have HA := Lib.hid h
              have HB := Lib.hid (HB.out.trans hb1)
              clear h hb1
              go_wp2_with fail
              refine (amid_none2 _ g1 g2 b n (n) t kk _ HA.out (by omega) (by omega) hk32 (by omega)).mono ?_
              rintro e w1 ⟨rfl, h, hb1⟩
              have HA := Lib.hid h
              have HB := Lib.hid (HB.out.trans hb1)
              clear h hb1
              go_wp2_with fail
              refine (amid_at1 _ g1 g2 b n (n) t _ HA.out (by omega)).mono ?_
              rintro e w1 ⟨rfl, h, hb1⟩
              have HA := Lib.hid h
              have HB := Lib.hid (HB.out.trans hb1)
              clear h hb1
              go_wp2_with fail
              refine (amid_at2 _ g1 g2 b n (n) t _ HA.out (by omega)).mono ?_
              rintro e w1 ⟨rfl, h, hb1⟩
              have HA := Lib.hid h
              have HB := Lib.hid (HB.out.trans hb1)
              clear h hb1
              go_wp2
              exact ⟨⟨j + 1, n, t, none, 0, by omega, by go_num, by simp, by omega, by omega, by omega, by omega, NIL, HA, HB⟩, by simp [intOf]; omega⟩
          · have dl : decide ((lf : Int) < (kk : Int)) = false := by simp; omega
            have hqf : kk ≤ 8 * (q + a) - t := by omega
            by_cases hbk : kk ≤ 8 * (q + a) - t
            · have HQq : q + a ≤ n := by omega
              go_wp2_with fail
              refine (amid_one _ g1 g2 b n (q + a) t kk _ HA.out HLb.out (by omega) (by omega) (by omega) hk32 hbk hg1 HB.out.size).mono ?_
              rintro e w1 ⟨rfl, h, hb1⟩
              have HA := Lib.hid h
              have HB := Lib.hid (HB.out.trans hb1)
              clear h hb1
              go_wp2_with fail
              refine (half_two _ g1 g2 b n (q + a) t kk _ HA.out HLb.out (by omega) (by omega) (by omega) hk32 hbk hg2 HB.out.size).mono ?_
              rintro e w1 ⟨rfl, h, hb1⟩
              have HA := Lib.hid h
              have HB := Lib.hid (HB.out.trans hb1)
              clear h hb1
              go_wp2_with fail
              refine (amid_at1 _ g1 g2 b n (q + a) (t + kk) _ HA.out (by omega)).mono ?_
              rintro e w1 ⟨rfl, h, hb1⟩
              have HA := Lib.hid h
              have HB := Lib.hid (HB.out.trans hb1)
              clear h hb1
              go_wp2_with fail
              refine (amid_at2 _ g1 g2 b n (q + a) (t + kk) _ HA.out (by omega)).mono ?_
              rintro e w1 ⟨rfl, h, hb1⟩
              have HA := Lib.hid h
              have HB := Lib.hid (HB.out.trans hb1)
              clear h hb1
              go_wp2
              exact ⟨⟨j + 1, q + a, t + kk, (A'.map (fun x => x.add a)), c' - a, by omega, by go_num, by rw [HLEN.out], by omega, by omega, by have := HLEN.out; omega, by omega, (by rw [HLEN.out]; exact HRS), HA, HB⟩, by simp [intOf]; omega⟩
            · have HQn : q + a = n := by omega
              go_wp2_with fail
              refine (amid_none1 _ g1 g2 b n (q + a) t kk _ HA.out (by omega) hk32 (by omega)).mono ?_
              rintro e w1 ⟨rfl, h, hb1⟩
              have HA := Lib.hid h
              have HB := Lib.hid (HB.out.trans hb1)
              clear h hb1
              go_wp2_with fail
              refine (amid_none2 _ g1 g2 b n (q + a) t kk _ HA.out (by omega) (by omega) hk32 (by omega)).mono ?_
              rintro e w1 ⟨rfl, h, hb1⟩
              have HA := Lib.hid h
              have HB := Lib.hid (HB.out.trans hb1)
              clear h hb1
              go_wp2_with fail
              refine (amid_at1 _ g1 g2 b n (q + a) t _ HA.out (by omega)).mono ?_
              rintro e w1 ⟨rfl, h, hb1⟩
              have HA := Lib.hid h
              have HB := Lib.hid (HB.out.trans hb1)
              clear h hb1
              go_wp2_with fail
              refine (amid_at2 _ g1 g2 b n (q + a) t _ HA.out (by omega)).mono ?_
              rintro e w1 ⟨rfl, h, hb1⟩
              have HA := Lib.hid h
              have HB := Lib.hid (HB.out.trans hb1)
              clear h hb1
              go_wp2
              exact ⟨⟨j + 1, q + a, t, (A'.map (fun x => x.add a)), c' - a, by omega, by go_num, by rw [HLEN.out], by omega, by omega, by have := HLEN.out; omega, by omega, (by rw [HLEN.out]; exact HRS), HA, HB⟩, by simp [intOf]; omega⟩
      · have dj : decide ((j : Int) < (m : Int)) = false := by simp; omega
        have HRS := HRS0
        clear HRS0
        skip
        go_wp2_with fail
        refine (amid_left _ g1 g2 b n (q) t _ HA.out (by omega)).mono ?_
        rintro e w1 ⟨rfl, h, hb1⟩
        have HA := Lib.hid h
        have HB := Lib.hid (HB.out.trans hb1)
        clear h hb1
        obtain ⟨lf, hlf⟩ : ∃ lf, 8 * (q) - t = lf := ⟨_, rfl⟩
        rw [hlf]
        by_cases hlk : lf < kk
        · have dl : decide ((lf : Int) < (kk : Int)) = true := by simp; omega
          have HLF := Lib.hid hlf
          clear hlf
          go_wp2_with fail
          refine (amid_feed _ g1 g2 b n (q) t A' (n - q) (c') _ HA.out HLb.out (by
            rw [List.take_of_length_le (by rw [List.length_drop, HLb.out]; exact Nat.le_refl _)]
            exact HRS.out.below HB.out) (by omega) (by have := HLF.out; omega) (by omega) hg2 HB.out.size).mono ?_
          rintro e w1 ⟨rfl, h, hb1⟩
          rw [show q + (n - q) = n by omega] at h
          have HA := Lib.hid h
          have HB := Lib.hid (HB.out.trans hb1)
          clear h hb1
          by_cases hbk : kk ≤ 8 * (n) - t
          · have HQq : n ≤ n := by omega
            go_wp2_with fail
            refine (amid_one _ g1 g2 b n (n) t kk _ HA.out HLb.out (by omega) (by omega) (by omega) hk32 hbk hg1 HB.out.size).mono ?_
            rintro e w1 ⟨rfl, h, hb1⟩
            have HA := Lib.hid h
            have HB := Lib.hid (HB.out.trans hb1)
            clear h hb1
            go_wp2_with fail
            refine (half_two _ g1 g2 b n (n) t kk _ HA.out HLb.out (by omega) (by omega) (by omega) hk32 hbk hg2 HB.out.size).mono ?_
            rintro e w1 ⟨rfl, h, hb1⟩
            have HA := Lib.hid h
            have HB := Lib.hid (HB.out.trans hb1)
            clear h hb1
            go_wp2_with fail
            refine (amid_at1 _ g1 g2 b n (n) (t + kk) _ HA.out (by omega)).mono ?_
            rintro e w1 ⟨rfl, h, hb1⟩
            have HA := Lib.hid h
            have HB := Lib.hid (HB.out.trans hb1)
            clear h hb1
            go_wp2_with fail
            refine (amid_at2 _ g1 g2 b n (n) (t + kk) _ HA.out (by omega)).mono ?_
            rintro e w1 ⟨rfl, h, hb1⟩
            have HA := Lib.hid h
            have HB := Lib.hid (HB.out.trans hb1)
            clear h hb1
            go_wp2
            exact ⟨⟨j + 1, n, t + kk, none, 0, by omega, by go_num, by simp, by omega, by omega, by omega, by omega, NIL, HA, HB⟩, by simp [intOf]; omega⟩
          · have HQn : n = n := by omega
            go_wp2_with fail
            refine (amid_none1 _ g1 g2 b n (n) t kk _ HA.out (by omega) hk32 (by omega)).mono ?_
            rintro e w1 ⟨rfl, h, hb1⟩
            have HA := Lib.hid h
            have HB := Lib.hid (HB.out.trans hb1)
            clear h hb1
            go_wp2_with fail
            refine (amid_none2 _ g1 g2 b n (n) t kk _ HA.out (by omega) (by omega) hk32 (by omega)).mono ?_
            rintro e w1 ⟨rfl, h, hb1⟩
            have HA := Lib.hid h
            have HB := Lib.hid (HB.out.trans hb1)
            clear h hb1
            go_wp2_with fail
            refine (amid_at1 _ g1 g2 b n (n) t _ HA.out (by omega)).mono ?_
            rintro e w1 ⟨rfl, h, hb1⟩
            have HA := Lib.hid h
            have HB := Lib.hid (HB.out.trans hb1)
            clear h hb1
            go_wp2_with fail
            refine (amid_at2 _ g1 g2 b n (n) t _ HA.out (by omega)).mono ?_
            rintro e w1 ⟨rfl, h, hb1⟩
            have HA := Lib.hid h
            have HB := Lib.hid (HB.out.trans hb1)
            clear h hb1
            go_wp2
            exact ⟨⟨j + 1, n, t, none, 0, by omega, by go_num, by simp, by omega, by omega, by omega, by omega, NIL, HA, HB⟩, by simp [intOf]; omega⟩
        · have dl : decide ((lf : Int) < (kk : Int)) = false := by simp; omega
          have hqf : kk ≤ 8 * (q) - t := by omega
          by_cases hbk : kk ≤ 8 * (q) - t
          · have HQq : q ≤ n := by omega
            go_wp2_with fail
            refine (amid_one _ g1 g2 b n (q) t kk _ HA.out HLb.out (by omega) (by omega) (by omega) hk32 hbk hg1 HB.out.size).mono ?_
            rintro e w1 ⟨rfl, h, hb1⟩
            have HA := Lib.hid h
            have HB := Lib.hid (HB.out.trans hb1)
            clear h hb1
            go_wp2_with fail
            refine (half_two _ g1 g2 b n (q) t kk _ HA.out HLb.out (by omega) (by omega) (by omega) hk32 hbk hg2 HB.out.size).mono ?_
            rintro e w1 ⟨rfl, h, hb1⟩
            have HA := Lib.hid h
            have HB := Lib.hid (HB.out.trans hb1)
            clear h hb1
            go_wp2_with fail
            refine (amid_at1 _ g1 g2 b n (q) (t + kk) _ HA.out (by omega)).mono ?_
            rintro e w1 ⟨rfl, h, hb1⟩
            have HA := Lib.hid h
            have HB := Lib.hid (HB.out.trans hb1)
            clear h hb1
            go_wp2_with fail
            refine (amid_at2 _ g1 g2 b n (q) (t + kk) _ HA.out (by omega)).mono ?_
            rintro e w1 ⟨rfl, h, hb1⟩
            have HA := Lib.hid h
            have HB := Lib.hid (HB.out.trans hb1)
            clear h hb1
            go_wp2
            exact ⟨⟨j + 1, q, t + kk, A', c', by omega, by go_num, (by first | rfl | trivial), by omega, by omega, by omega, by omega, HRS, HA, HB⟩, by simp [intOf]; omega⟩
          · have HQn : q = n := by omega
            go_wp2_with fail
            refine (amid_none1 _ g1 g2 b n (q) t kk _ HA.out (by omega) hk32 (by omega)).mono ?_
            rintro e w1 ⟨rfl, h, hb1⟩
            have HA := Lib.hid h
            have HB := Lib.hid (HB.out.trans hb1)
            clear h hb1
            go_wp2_with fail
            refine (amid_none2 _ g1 g2 b n (q) t kk _ HA.out (by omega) (by omega) hk32 (by omega)).mono ?_
            rintro e w1 ⟨rfl, h, hb1⟩
            have HA := Lib.hid h
            have HB := Lib.hid (HB.out.trans hb1)
            clear h hb1
            go_wp2_with fail
            refine (amid_at1 _ g1 g2 b n (q) t _ HA.out (by omega)).mono ?_
            rintro e w1 ⟨rfl, h, hb1⟩
            have HA := Lib.hid h
            have HB := Lib.hid (HB.out.trans hb1)
            clear h hb1
            go_wp2_with fail
            refine (amid_at2 _ g1 g2 b n (q) t _ HA.out (by omega)).mono ?_
            rintro e w1 ⟨rfl, h, hb1⟩
            have HA := Lib.hid h
            have HB := Lib.hid (HB.out.trans hb1)
            clear h hb1
            go_wp2
            exact ⟨⟨j + 1, q, t, A', c', by omega, by go_num, (by first | rfl | trivial), by omega, by omega, by omega, by omega, HRS, HA, HB⟩, by simp [intOf]; omega⟩
    · have dj : decide ((j : Int) < (p : Int)) = false := by simp; omega
      obtain ⟨rl, hrl⟩ : ∃ rl, n - q = rl := ⟨_, rfl⟩
      rw [hrl] at HRS0 ⊢
      have HRL := Lib.hid hrl
      clear hrl hqc
      go_wp2_with fail
      refine (amid_feed _ g1 g2 b n q t A' rl c' _ HA.out HLb.out (by
        rw [List.take_of_length_le (by rw [List.length_drop, HLb.out, HRL.out]; exact Nat.le_refl _)]
        exact HRS0.out.below HB.out) (by have := HRL.out; omega) htq (by omega) hg2 HB.out.size).mono ?_
      rintro e w1 ⟨rfl, h, hb1⟩
      rw [show q + rl = n by have := HRL.out; omega] at h
      have HB := Lib.hid (HB.out.trans hb1)
      have h : Two w1 W.heap.size g1 g2 (num b / 2 ^ t) (8 * n - t) t n (num b / 2 ^ t) (8 * n - t) t n := by
        unfold Amid at h
        rwa [List.take_of_length_le (by rw [HLb.out]; exact Nat.le_refl _)] at h
      generalize num b / 2 ^ t = U at h
      obtain ⟨lf, hlf⟩ : ∃ lf, 8 * n - t = lf := ⟨_, rfl⟩
      rw [hlf] at h
      have FT := Lib.hid h
      have FR := Lib.hid (fun w' (hb : Below w1.heap.size w1 w') => two_rest W.heap.size g2 g1 _ _ _ _ _ _ _ _ w' (h.symm.below hb) (by omega))
      have FR2 := Lib.hid (fun w' (hb : Below w1.heap.size w1 w') => two_rest W.heap.size g1 g2 _ _ _ _ _ _ _ _ w' (h.below hb) (by omega))
      generalize leB (U / 2 ^ (lf % 8)) (lf / 8) = rs at FR FR2
      generalize lf / 8 = rn at FR FR2
      clear h hb1 hlf HRS0 HA
      go_wp2
      refine wp_region_free (by kernel_rfl) (by kernel_rfl) (by kernel_rfl) ?_
      iterate 1 (first | (refine free_skip rfl rfl ?_; intro K hK; go_big_quiet_op; go_big_quiet_on) | (refine free_hard rfl rfl ?_; intro K hK; go_big_quiet_op; go_big_quiet_on))
      refine free_value (.int .i64 (lf : Nat)) rfl rfl rfl (fun w' hw' => ?_) ?_
      · have hb := hw'.1.below
        have HW := Lib.hid hw'
        clear hw'
        go_simp
        exact Calls.soft_value (calls_below (two_left W.heap.size g2 g1 _ _ _ _ _ _ _ _ w' (FT.out.symm.below hb) (by omega)))
      intro K hK
      go_big_quiet_op
      go_big_quiet_on
      iterate 1 (first | (refine free_skip rfl rfl ?_; intro K hK; go_big_quiet_op; go_big_quiet_on) | (refine free_hard rfl rfl ?_; intro K hK; go_big_quiet_op; go_big_quiet_on))
      refine free_value (.int .i64 (lf : Nat)) rfl rfl rfl (fun w' hw' => ?_) ?_
      · have hb := hw'.1.below
        have HW := Lib.hid hw'
        clear hw'
        go_simp
        exact Calls.soft_value (calls_below (two_left W.heap.size g1 g2 _ _ _ _ _ _ _ _ w' (FT.out.below hb) (by omega)))
      intro K hK
      go_big_quiet_op
      go_big_quiet_on
      iterate 3 (first | (refine free_skip rfl rfl ?_; intro K hK; go_big_quiet_op; go_big_quiet_on) | (refine free_hard rfl rfl ?_; intro K hK; go_big_quiet_op; go_big_quiet_on))
      refine free_soft (ι := Option Addr × Nat) (fun i => .slice i.1 (rn) i.2) (fun i w' => Bs w' (fun b => w1.heap.size ≤ b) i.1 (rn) (rs)) rfl rfl rfl (fun _ => firm_bs) (fun w' hw' => ?_) (fun i => ?_)
      · have hb := hw'.1.below
        have HW := Lib.hid hw'
        clear hw'
        go_simp
        refine (FR.out w' hb).mono ?_
        rintro e w2 ⟨A', c', rfl, ho, hb2⟩
        exact ⟨hb2, (A', c'), rfl, (Bs.of_own ho).mono fun b h => by have := hb.size; omega⟩
      obtain ⟨A1, c1⟩ := i
      dsimp only
      intro K hK
      go_big_quiet_op
      go_big_quiet_on
      refine free_fact (.string ⟨rs.toArray⟩) rfl rfl rfl (fun w' hw' => ?_) ?_
      · have hf := str_of c1 (hw'.2 7 (by kernel_rfl)).1
        clear hw'
        go_simp
      intro K hK
      go_big_quiet_op
      go_big_quiet_on
      iterate 1 (first | (refine free_skip rfl rfl ?_; intro K hK; go_big_quiet_op; go_big_quiet_on) | (refine free_hard rfl rfl ?_; intro K hK; go_big_quiet_op; go_big_quiet_on))
      refine free_soft (ι := Option Addr × Nat) (fun i => .slice i.1 (rn) i.2) (fun i w' => Bs w' (fun b => w1.heap.size ≤ b) i.1 (rn) (rs)) rfl rfl rfl (fun _ => firm_bs) (fun w' hw' => ?_) (fun i => ?_)
      · have hb := hw'.1.below
        have HW := Lib.hid hw'
        clear hw'
        go_simp
        refine (FR2.out w' hb).mono ?_
        rintro e w2 ⟨A', c', rfl, ho, hb2⟩
        exact ⟨hb2, (A', c'), rfl, (Bs.of_own ho).mono fun b h => by have := hb.size; omega⟩
      obtain ⟨A2, c2⟩ := i
      dsimp only
      intro K hK
      go_big_quiet_op
      go_big_quiet_on
      refine free_fact (.string ⟨rs.toArray⟩) rfl rfl rfl (fun w' hw' => ?_) ?_
      · have hf := str_of c2 (hw'.2 10 (by kernel_rfl)).1
        clear hw'
        go_simp
      intro K hK
      go_big_quiet_op
      go_big_quiet_on
      iterate 3 (first | (refine free_skip rfl rfl ?_; intro K hK; go_big_quiet_op; go_big_quiet_on) | (refine free_hard rfl rfl ?_; intro K hK; go_big_quiet_op; go_big_quiet_on))
      refine free_nil ?_
      intro w4 hb4 hk4
      have B4 := Lib.hid (HB.out.trans (hb4.mono HB.out.size))
      clear hk4 hb4
      go_wp2
      go_ret
      exact ⟨rfl, B4.out⟩
end Go.Proofs.Ythkhmkaebhgjbaa
