/- Of which kind a set of codes is. -/
import Derived.Test.YtfbfbkgpcpidcaaC1
namespace Go.Proofs.Ytfbfbkgpcpidcaa
open Go.RowKit

def codesTo (ns : List Int) : Nat → Int
  | 0 => 0
  | k + 1 => codesTo ns k + cnt ns (k + 1)
def sumTo (ns : List Int) : Nat → Int
  | 0 => 0
  | k + 1 => sumTo ns k + cnt ns (k + 1) * 2 ^ (15 - (k + 1))
theorem codesTo_bd (ns : List Int) (k : Nat) : 0 ≤ codesTo ns k ∧ codesTo ns k ≤ ns.length * k := by
  induction k with
  | zero => simp [codesTo]
  | succ k ih =>
    have := cnt_le ns (k + 1)
    simp only [codesTo]
    rw [show (ns.length : Int) * ((k + 1 : Nat) : Int) = ns.length * k + ns.length from by rw [Int.natCast_add, Int.mul_add]; simp]
    omega
theorem pow_bd (k : Nat) : (1 : Int) ≤ 2 ^ (15 - (k + 1)) ∧ (2 : Int) ^ (15 - (k + 1)) ≤ 32768 := by
  have : 15 - (k + 1) < 15 := by omega
  generalize 15 - (k + 1) = m at *
  rcases m with _ | _ | _ | _ | _ | _ | _ | _ | _ | _ | _ | _ | _ | _ | _ | m
  all_goals first
    | omega
    | decide
theorem part_bd (ns : List Int) (k : Nat) : 0 ≤ cnt ns (k + 1) * 2 ^ (15 - (k + 1)) ∧ cnt ns (k + 1) * 2 ^ (15 - (k + 1)) ≤ ns.length * 32768 := by
  have h1 := cnt_le ns (k + 1)
  have h2 := pow_bd k
  constructor
  · exact Int.mul_nonneg h1.1 (by omega)
  · exact Int.mul_le_mul h1.2 h2.2 (by omega) (by omega)
theorem sumTo_bd (ns : List Int) (k : Nat) : 0 ≤ sumTo ns k ∧ sumTo ns k ≤ ns.length * 32768 * k := by
  induction k with
  | zero => simp [sumTo]
  | succ k ih =>
    have := part_bd ns k
    simp only [sumTo]
    rw [show (ns.length : Int) * 32768 * ((k + 1 : Nat) : Int) = ns.length * 32768 * k + ns.length * 32768 from by rw [Int.natCast_add, Int.mul_add]; simp]
    omega
def kindV (c s m : Int) : Nat := if 32768 < s then 4 else if m = 0 then 0 else if s = 32768 then 3 else if m = 1 ∧ c = 1 then 1 else 2
def kindOf (ns : List Int) : Nat := if right ns = true then kindV (cnt ns 1) (sumTo ns 15) (codesTo ns 15) else 5
set_option maxHeartbeats 1000000 in
theorem kind_any (A : Option Addr) (n c : Nat) (ns : List Int) (S : Nat → Prop) (w : World) (hL : Lst w S 1 A n (ns.map (Value.int .i64))) (hs : ∀ b, S b → b < w.heap.size) (hb : Big ns) (hl : n ≤ 1000000) :
    Calls Try.prog 9 #[.slice A n c] w fun e w' => e = .returned (.int .i64 (kindOf ns : Nat)) ∧ Below w.heap.size w w' := by
  have HT := Lib.hid (tally_any A n c ns S w hL hs hb hl)
  have hn : ns.length = n := by have := hL.len; simpa using this
  subst hn
  clear hL hb hs
  go_enter Try.func9, Try.ntmps9
  go_wp2_with fail
  refine HT.out.mono ?_
  rintro e w1 ⟨rfl, hb1⟩
  have HB1 := Lib.hid hb1
  have i35 := info35
  have hz := cellsF_size (cnt ns)
  clear hb1 HT
  have hr0 : ∀ cs : Array Value, (Whole (w1.alloc (.cells cs 35)) w1.heap.size 35 cs) := fun cs => Whole.new _ _ _ rfl
  have HR0 := Lib.hid hr0
  clear hr0
  cases hr : right ns
  · have hk : kindOf ns = 5 := by unfold kindOf; rw [hr]; rfl
    have HK := Lib.hid hk
    clear hk
    go_wp2_with (first
      | refine wpList_store_row rfl 35 (.tmp 3) (.tmp 11) rfl w1.heap.size (cellsF (cnt ns)) rfl rfl 35 _ (HR0.out _) (by rw [cellsF_size]; exact info35) (by rw [cellsF_size]; rfl) (cellsF_one _) ?_)
    go_ret
    rw [HK.out]
    exact ⟨rfl, below_setRow (HB1.out.alloc HB1.out.size _) HB1.out.size _⟩
  · have hk : kindOf ns = kindV (cnt ns 1) (sumTo ns 15) (codesTo ns 15) := by unfold kindOf; rw [hr, if_pos rfl]
    have HK := Lib.hid hk
    clear hk hr
    go_wp2_with (first
      | refine wpList_store_row rfl 35 (.tmp 3) (.tmp 11) rfl w1.heap.size (cellsF (cnt ns)) rfl rfl 35 _ (HR0.out _) (by rw [cellsF_size]; exact info35) (by rw [cellsF_size]; rfl) (cellsF_one _) ?_)
    go_loopw [5, 6, 7] (fun s m i wr => ∃ (k : Nat) (sv mv : Int), k ≤ 15 ∧ i = .int .i64 ((k + 1 : Nat) : Int) ∧ s = .int .i64 sv ∧ m = .int .i64 mv ∧ Hid (sumTo ns k = sv) ∧ Hid (codesTo ns k = mv) ∧ Hid (Arr wr w1.heap.size (cnt ns)) ∧ Hid (Below w.heap.size w wr)) (fun _ _ i _ => 16 - (intOf i).toNat)
    case atStart =>
      refine ⟨0, 0, 0, by omega, rfl, rfl, rfl, Lib.hid rfl, Lib.hid rfl, Lib.hid (setRow_heap _ _ _ _ 35 _ (HR0.out _)), Lib.hid (below_setRow (HB1.out.alloc HB1.out.size _) HB1.out.size _)⟩
    case round =>
      obtain ⟨k, sv, mv, hk, rfl, rfl, rfl, HSV, HMV, HA, HW⟩ := hrel
      clear HR0 HB1
      have hs1 := sumTo_bd ns k
      have hm1 := codesTo_bd ns k
      rw [HSV.out] at hs1
      rw [HMV.out] at hm1
      have hk15 : (k : Int) ≤ 15 := by omega
      have hs2 : sv ≤ 491520000000 := by
        have : (ns.length : Int) * 32768 * k ≤ 1000000 * 32768 * 15 := Int.mul_le_mul (by omega) hk15 (by omega) (by omega)
        omega
      have hm2 : mv ≤ 15000000 := by
        have : (ns.length : Int) * k ≤ 1000000 * 15 := Int.mul_le_mul (by omega) hk15 (by omega) (by omega)
        omega
      obtain ⟨hs0, -⟩ := hs1
      obtain ⟨hm0, -⟩ := hm1
      clear hk15
      by_cases hlt : k < 15
      · have c1 := HA.out.cell (i := k + 1) (by omega)
        have f1 := HA.out.free (k + 1)
        have hb1 := cnt_le ns (k + 1)
        obtain ⟨y, hy⟩ : ∃ y, cnt ns (k + 1) = y := ⟨_, rfl⟩
        rw [hy] at c1 hb1
        have hp := part_bd ns k
        rw [hy] at hp
        have HY := Lib.hid hy
        clear hy
        obtain ⟨q, hq⟩ : ∃ q, 15 - (k + 1) = q := ⟨_, rfl⟩
        rw [hq] at hp
        have hp2 : y * 2 ^ q ≤ 32768000000 := by omega
        obtain ⟨hp0, -⟩ := hp
        have HQ := Lib.hid hq
        have HQ2 : Hid (14 - k = q) := Lib.hid (by omega)
        have hq2 : (15 : Int) - ((k + 1 : Nat) : Int) = (q : Nat) := by omega
        clear hq
        go_wp2
        go_round
        case rel =>
          refine ⟨k + 1, sv + y * 2 ^ q, mv + y, by omega, by go_num, by rw [HQ2.out]; generalize y * 2 ^ q = z at *; unfold wrap64; congr 1; omega, by go_num, Lib.hid ?_, Lib.hid ?_, HA, HW⟩
          · simp only [sumTo]; rw [HSV.out, HY.out, HQ.out]
          · simp only [codesTo]; rw [HMV.out, HY.out]
        case measure => simp [intOf]; omega
      · obtain rfl : k = 15 := by omega
        have c1 := HA.out.cell (i := 1) (by omega)
        obtain ⟨y, hy⟩ : ∃ y, cnt ns 1 = y := ⟨_, rfl⟩
        rw [hy] at c1
        have HY := Lib.hid hy
        clear hy
        rw [HSV.out, HMV.out, HY.out] at HK
        unfold kindV at HK
        by_cases g1 : 32768 < sv
        · have HK2 : Hid (kindOf ns = 4) := Lib.hid (by rw [HK.out, if_pos g1])
          have x1 : decide (32768 < sv) = true := by simpa using g1
          clear HK g1
          go_wp2
          go_ret
          rw [HK2.out]
          exact ⟨rfl, HW.out⟩
        · have x1 : decide (32768 < sv) = false := by simpa using g1
          by_cases g2 : mv = 0
          · have HK2 : Hid (kindOf ns = 0) := Lib.hid (by rw [HK.out, if_neg g1, if_pos g2])
            have x2 : (mv == 0) = true := by simpa using g2
            clear HK g1 g2
            go_wp2
            go_ret
            rw [HK2.out]
            exact ⟨rfl, HW.out⟩
          · have x2 : (mv == 0) = false := by simpa using g2
            by_cases g3 : sv = 32768
            · have HK2 : Hid (kindOf ns = 3) := Lib.hid (by rw [HK.out, if_neg g1, if_neg g2, if_pos g3])
              have x3 : (sv == 32768) = true := by simpa using g3
              clear HK g1 g2 g3
              go_wp2
              go_ret
              rw [HK2.out]
              exact ⟨rfl, HW.out⟩
            · have x3 : (sv == 32768) = false := by simpa using g3
              by_cases g4 : mv = 1 ∧ y = 1
              · have HK2 : Hid (kindOf ns = 1) := Lib.hid (by rw [HK.out, if_neg g1, if_neg g2, if_neg g3, if_pos g4])
                have x4 : (mv == 1) = true := by simpa using g4.1
                have x5 : (y == 1) = true := by simpa using g4.2
                clear HK g1 g2 g3 g4
                go_wp2
                go_ret
                rw [HK2.out]
                exact ⟨rfl, HW.out⟩
              · have HK2 : Hid (kindOf ns = 2) := Lib.hid (by rw [HK.out, if_neg g1, if_neg g2, if_neg g3, if_neg g4])
                by_cases g5 : mv = 1
                · have x4 : (mv == 1) = true := by simpa using g5
                  have x5 : (y == 1) = false := by simpa using fun e => g4 ⟨g5, e⟩
                  clear HK g1 g2 g3 g4 g5
                  go_wp2
                  go_ret
                  rw [HK2.out]
                  exact ⟨rfl, HW.out⟩
                · have x4 : (mv == 1) = false := by simpa using g5
                  clear HK g1 g2 g3 g4 g5
                  go_wp2
                  go_ret
                  rw [HK2.out]
                  exact ⟨rfl, HW.out⟩

end Go.Proofs.Ytfbfbkgpcpidcaa
