/- The codes of a set, by the program. -/
import Derived.Test.YtfbfbkgpcpidcaaC5
import Derived.StillTailTactics
namespace Go.Proofs.Ytfbfbkgpcpidcaa
open Go.RowKit

def nx (ns : List Int) : Nat → Int
  | 0 => 0
  | 1 => 0
  | k + 2 => 2 * (nx ns (k + 1) + cnt ns (k + 1))
theorem nx_sum (ns : List Int) (k : Nat) (h : k < 15) : (nx ns (k + 1) + cnt ns (k + 1)) * 2 ^ (14 - k) = sumTo ns (k + 1) := by
  rcases k with _ | _ | _ | _ | _ | _ | _ | _ | _ | _ | _ | _ | _ | _ | _ | k
  all_goals first
    | omega
    | (simp only [nx, sumTo, Nat.zero_add, Nat.reduceAdd, Nat.reduceSub]; omega)
theorem sumTo_mono (ns : List Int) (k : Nat) (h : k ≤ 15) : sumTo ns k ≤ sumTo ns 15 := by
  obtain ⟨m, hm⟩ : ∃ m, 15 = k + m := ⟨15 - k, by omega⟩
  rw [hm]
  clear hm h
  induction m with
  | zero => exact Int.le_refl _
  | succ m ih =>
    have := part_bd ns (k + m)
    rw [← Nat.add_assoc]
    simp only [sumTo]
    omega
theorem nx_nonneg (ns : List Int) (k : Nat) : 0 ≤ nx ns k := by
  rcases k with _ | k
  · simp [nx]
  · induction k with
    | zero => simp [nx]
    | succ k ih =>
      have := cnt_le ns (k + 1)
      simp only [nx]
      omega
theorem nx_le (ns : List Int) (k : Nat) (h : k < 15) (hs : sumTo ns 15 ≤ 32768) : nx ns (k + 1) + cnt ns (k + 1) ≤ 2 ^ (k + 1) := by
  have h1 := nx_sum ns k h
  have h2 := sumTo_mono ns (k + 1) (by omega)
  rcases k with _ | _ | _ | _ | _ | _ | _ | _ | _ | _ | _ | _ | _ | _ | _ | k
  all_goals first
    | omega
    | (simp at h1 ⊢; omega)
theorem two_pow_le (q : Nat) (h : q < 16) : (2 : Int) ^ q ≤ 32768 := by
  have h1 := pow_bd (14 - q)
  have h2 : 15 - (14 - q + 1) = q ∨ q = 15 := by omega
  rcases h2 with h2 | h2
  · rw [h2] at h1; exact h1.2
  · subst h2; decide
theorem cnt_take_le (ns : List Int) (j k : Nat) : 0 ≤ cnt (ns.take j) k ∧ cnt (ns.take j) k ≤ cnt ns k := by
  refine ⟨(cnt_le _ k).1, ?_⟩
  unfold cnt
  have := List.Sublist.count_le (k : Int) (List.take_sublist j ns)
  omega
/-- The code of symbol i before it is turned. -/
def cdN (ns : List Int) (i : Nat) : Nat := (nx ns (ns.getD i 0).toNat + cnt (ns.take i) (ns.getD i 0).toNat).toNat
def cdOf (ns : List Int) (i : Nat) : Nat := if 1 ≤ ns.getD i 0 then revN (cdN ns i) (ns.getD i 0).toNat else 0
def cdI (ns : List Int) (i : Nat) : Int := ((cdOf ns i : Nat) : Int)
theorem fillTo_skip (f : Nat → Int) (n k : Nat) (h : f k = 0) : fillTo f n k = fillTo f n (k + 1) := by
  unfold fillTo
  refine List.map_congr_left fun i _ => ?_
  by_cases h4 : i < k
  · rw [if_pos h4, if_pos (by omega)]
  · rw [if_neg h4]
    by_cases h5 : i < k + 1
    · rw [if_pos h5, show i = k by omega, h]
    · rw [if_neg h5]

def cellsU (f : Nat → Int) : Array Value := ((List.range 16).map fun i => Value.int .u32 (f i)).toArray
theorem cellsU_at (f : Nat → Int) (i : Nat) (h : i < 16) : (cellsU f)[i]? = some (.int .u32 (f i)) := by
  simp [cellsU, h]
theorem cellsU_put (f : Nat → Int) (i : Nat) (v : Int) : (cellsU f).setIfInBounds i (.int .u32 v) = cellsU (fun k => if k = i then v else f k) := by
  apply Array.ext
  · simp [cellsU]
  · intro j h1 h2
    have h3 : j < 16 := by simpa [cellsU] using h2
    by_cases h : i = j
    · subst h; simp [cellsU]
    · have h4 : ¬ j = i := fun e => h e.symm
      simp [cellsU, h, h4]
theorem cellsU_congr {f g : Nat → Int} (h : ∀ k, k < 16 → f k = g k) : cellsU f = cellsU g := by
  unfold cellsU
  congr 1
  exact List.map_congr_left fun k hk => by rw [h k (List.mem_range.1 hk)]
theorem cellsU_zero : cellsU (fun _ => 0) = #[.int .u32 0, .int .u32 0, .int .u32 0, .int .u32 0, .int .u32 0, .int .u32 0, .int .u32 0, .int .u32 0, .int .u32 0, .int .u32 0, .int .u32 0, .int .u32 0, .int .u32 0, .int .u32 0, .int .u32 0, .int .u32 0] := rfl
def ArU (w : World) (g : Nat) (f : Nat → Int) : Prop := Whole w g 38 (cellsU f)
theorem ArU.cell {w : World} {g : Nat} {f : Nat → Int} (h : ArU w g f) {i : Nat} (hi : i < 16) : w.cell? ⟨g, i, none⟩ = some (.int .u32 (f i)) := (Whole.cell h i).trans (cellsU_at f i hi)
theorem ArU.free {w : World} {g : Nat} {f : Nat → Int} (h : ArU w g f) (i : Nat) : w.frozen? ⟨g, i, none⟩ = false := Whole.free h i
theorem ArU.put {w : World} {g : Nat} {f : Nat → Int} (h : ArU w g f) (i : Nat) (v : Int) : ArU (w.setCell ⟨g, i, none⟩ (.int .u32 v)) g (fun k => if k = i then v else f k) := Whole.put h i _ (cellsU_put f i v)
theorem ArU.congr {w : World} {g : Nat} {f f' : Nat → Int} (h : ArU w g f) (e : ∀ k, k < 16 → f k = f' k) : ArU w g f' := by
  unfold ArU at *
  rw [← cellsU_congr e]; exact h
theorem info32 : (Try.prog.info? 32).map (fun i => (i.zero, i.size, i.bytes)) = some (some (.int .u32 0), 1, 4) := by kernel_rfl
def nxTo (ns : List Int) (j k : Nat) : Int := if 1 ≤ k ∧ k ≤ j then nx ns k else 0
def nxAt (ns : List Int) (j k : Nat) : Int := if 1 ≤ k then nx ns k + cnt (ns.take j) k else 0
def Cds (ns : List Int) (n : Nat) (w : World) (e : Ending) (w' : World) : Prop :=
  ∃ g, e = .returned (.tuple #[.slice (some ⟨g, 0, none⟩) n n, .int .i64 0]) ∧ OwnAt w' w.heap.size 32 .u32 g n n ((List.range n).map (cdI ns)) ∧ Below w.heap.size w w'
theorem clampK_eq (q : Nat) (h : q ≤ 32) : clampK (q : Int) = q := by unfold clampK; omega
set_option maxHeartbeats 1000000 in
theorem codes_any (A : Option Addr) (n c : Nat) (ns : List Int) (S : Nat → Prop) (w : World) (hL : Lst w S 1 A n (ns.map (Value.int .i64))) (hs : ∀ b, S b → b < w.heap.size) (hb : Big ns) (hl : n ≤ 1000000)
    (hr : right ns = true) (hk : sumTo ns 15 ≤ 32768) :
    Calls Try.prog 8 #[.slice A n c] w (Cds ns n w) := by
  have HK := Lib.hid (kind_any A n c ns S w hL hs hb hl)
  have hn : ns.length = n := by have := hL.len; simpa using this
  subst hn
  have HL := Lib.hid hL
  have HS := Lib.hid hs
  have HBG := Lib.hid hb
  have HR := Lib.hid hr
  have HM := Lib.hid hk
  obtain ⟨K, hK⟩ : ∃ K, kindOf ns = K := ⟨_, rfl⟩
  have hK4 : K < 4 := by
    rw [← hK]
    unfold kindOf kindV
    rw [if_pos hr, if_neg (by omega)]
    repeat' split
    all_goals omega
  have x5 : ((K : Int) == 5) = false := by simp; omega
  have x4 : ((K : Int) == 4) = false := by simp; omega
  rw [hK] at HK
  clear hL hb hs hr hk hK
  obtain ⟨i0, hi, hz0, hz1, hz2⟩ := info_parts info32
  go_enter Try.func8, Try.ntmps8
  go_wp2_with fail
  refine HK.out.mono ?_
  rintro e w1 ⟨rfl, hb1⟩
  have HB1 := Lib.hid hb1
  clear hb1 HK
  go_wp2_with fail
  refine (tally_any A ns.length c ns S w1 (HL.out.below HB1.out) (fun b h => Nat.lt_of_lt_of_le (HS.out b h) HB1.out.size) HBG.out hl).mono ?_
  rintro e w2 ⟨rfl, hb2⟩
  have HB2 := Lib.hid (HB1.out.trans (hb2.mono HB1.out.size))
  have i35 := info35
  have hz := cellsF_size (cnt ns)
  clear hb2 HB1
  have hr0 : ∀ cs : Array Value, (Whole (w2.alloc (.cells cs 35)) w2.heap.size 35 cs) := fun cs => Whole.new _ _ _ rfl
  have HR0 := Lib.hid hr0
  clear hr0
  go_wp2_with (first
    | refine wpList_store_row rfl 35 (.tmp 4) (.tmp 20) rfl w2.heap.size (cellsF (cnt ns)) rfl rfl 35 _ (HR0.out _) (by rw [cellsF_size]; exact info35) (by rw [cellsF_size]; rfl) (cellsF_one _) ?_)
  have HGW : Hid (w.heap.size ≤ w2.heap.size) := Lib.hid HB2.out.size
  go_loopw [7] (fun i wr => ∃ (k : Nat), k < 15 ∧ i = .int .i64 ((k + 2 : Nat) : Int) ∧ Hid (Arr wr w2.heap.size (cnt ns)) ∧ Hid (ArU wr (w2.heap.size + 1) (nxTo ns (k + 1))) ∧ Hid (Below w.heap.size w wr)) (fun i _ => 17 - (intOf i).toNat)
  case atStart =>
    refine ⟨0, by omega, rfl, Lib.hid ?_, Lib.hid ?_, Lib.hid ?_⟩
    · exact Whole.alloc (setRow_heap _ _ _ _ 35 _ (HR0.out _)) _
    · refine ArU.congr (f := fun _ => 0) ?_ (fun k _ => by
        unfold nxTo
        split
        · rw [show k = 1 by omega]; rfl
        · rfl)
      unfold ArU
      rw [cellsU_zero]
      exact Whole.new _ 38 _ (by simp)
    · exact (below_setRow (HB2.out.alloc HB2.out.size _) HB2.out.size _).alloc (by have := HB2.out.size; simp; omega) _
  case round =>
    obtain ⟨k, hk, rfl, HA, HX, HW⟩ := hrel
    clear HR0 HB2
    by_cases hlt : k < 14
    · have c1 := HA.out.cell (i := k + 1) (by omega)
      have c2 := HX.out.cell (i := k + 1) (by omega)
      have c3 := HX.out.cell (i := k + 2) (by omega)
      have f2 := HX.out.free (k + 2)
      rw [show nxTo ns (k + 1) (k + 1) = nx ns (k + 1) from by unfold nxTo; rw [if_pos (by omega)]] at c2
      have hb1 := cnt_le ns (k + 1)
      have hb2 := nx_nonneg ns (k + 1)
      have hb3 := nx_le ns k (by omega) HM.out
      have hp := two_pow_le (k + 1) (by omega)
      have HY : Hid (nx ns (k + 2) = 2 * (nx ns (k + 1) + cnt ns (k + 1))) := Lib.hid rfl
      generalize cnt ns (k + 1) = y at c1 hb1 hb3 HY
      generalize nx ns (k + 1) = z at c2 hb2 hb3 HY
      have hy1 : 0 ≤ y ∧ y ≤ 32768 := by omega
      have hz1' : 0 ≤ z ∧ z ≤ 32768 := by omega
      obtain ⟨hb4, hb5⟩ := hy1
      obtain ⟨hb6, hb7⟩ := hz1'
      clear hb1 hb2 hb3 hp
      generalize nxTo ns (k + 1) (k + 2) = u at c3
      have e1 : IntKind.i64.wrap ((k : Int) + 2 - 1) = (k : Int) + 1 := by rw [IntWalk.i64_in _ (by omega)]; omega
      have e2 : ((k : Int) + 1).toNat = k + 1 := by omega
      have e3 : ((k : Int) + 2).toNat = k + 2 := by omega
      have e4 : IntKind.u32.wrap y = y := IntWalk.u32_in _ (by omega)
      have e5 : IntKind.u32.wrap (z + y) = z + y := IntWalk.u32_in _ (by omega)
      have e6 : IntKind.u32.wrap (2 * (z + y)) = 2 * (z + y) := IntWalk.u32_in _ (by omega)
      have g1 : (0 : Int) ≤ (k : Int) + 1 := by omega
      have g2 : (k : Int) + 1 < 16 := by omega
      have g3 : (0 : Int) ≤ (k : Int) + 2 := by omega
      have g4 : (k : Int) + 2 < 16 := by omega
      go_wp2
      refine wp_region_tail 13 (by kernel_rfl) (by kernel_rfl) ?_
      simp only [List.take_succ_cons, List.take_zero, List.drop_succ_cons, List.drop_zero]
      repeat still_step
      refine wpStill_nil ?_
      go_wp2
      go_round
      case rel =>
        refine ⟨k + 1, by omega, by go_num, Lib.hid ?_, Lib.hid ?_, Lib.hid ?_⟩
        · exact Whole.other HA.out (by simp) _
        · refine (HX.out.put (k + 2) _).congr fun j hj => ?_
          unfold nxTo
          by_cases e : j = k + 2
          · subst e
            rw [if_pos rfl, if_pos (by omega), HY.out]
          · rw [if_neg e]
            by_cases e2 : 1 ≤ j ∧ j ≤ k + 1
            · rw [if_pos e2, if_pos (by omega)]
            · rw [if_neg e2, if_neg (by omega)]
        · exact Below.setCell (show Below w.heap.size w wr.drew from HW.out.drew) (p := ⟨w2.heap.size + 1, k + 2, none⟩) (by have := HGW.out; simp only; omega) _
      case measure => simp [intOf]; omega
    · obtain rfl : k = 14 := by omega
      obtain ⟨g3, hg3⟩ : ∃ g, wr.heap.size = g := ⟨_, rfl⟩
      have HG3 := Lib.hid hg3
      clear hg3
      go_wp2_with (at_make
                   refine wpList_make_full _ rfl _ _ 25 rfl w.heap.size 32 i0 (.int .u32 0) 1 Try.underlying25 hi hz0 hz1 .i64 .i64 (ns.length : Nat) (ns.length : Nat) ns.length rfl rfl (by simp) (by simp) (by rw [hz2]; omega) (by unfold maxLen; omega) HW.out.size ?_
                   intro w3 hown hg
                   rw [toList_made_int, HG3.out] at hown
                   rw [HG3.out]
                   have HO := Lib.hid hown
                   have HB := Lib.hid (HW.out.grown hg HW.out.size (fun _ h => by cases h))
                   have HX2 := Lib.hid (Whole.grown HX.out hg (by simp))
                   have HG4 : Hid (w2.heap.size + 1 < g3) := Lib.hid (by rw [← HG3.out]; exact Whole.lt HX.out)
                   clear hown hg HA HX HW)
      go_loopw [44] (fun i wr => ∃ j : Nat, j ≤ ns.length ∧ i = .int .i64 (j : Nat) ∧ Hid (ArU wr (w2.heap.size + 1) (nxAt ns j)) ∧ Hid (OwnAt wr w.heap.size 32 .u32 g3 ns.length ns.length (fillTo (cdI ns) ns.length j)) ∧ Hid (Below w.heap.size w wr)) (fun i _ => ns.length - (intOf i).toNat)
      case atStart =>
        refine ⟨0, Nat.zero_le _, rfl, Lib.hid ?_, Lib.hid ?_, HB⟩
        · refine ArU.congr (show ArU _ _ _ from HX2.out) fun k hk => ?_
          unfold nxTo nxAt
          by_cases e : 1 ≤ k
          · rw [if_pos e, if_pos ⟨e, by omega⟩]
            simp [cnt]
          · rw [if_neg e, if_neg (by omega)]
        · rw [fillTo_zero]
          exact HO.out
      case round =>
        obtain ⟨j, hj, rfl, HX, HO, HW⟩ := hrel
        clear HX2 
        by_cases hlt : j < ns.length
        · obtain ⟨b, off, rfl, hbl, _, hc⟩ := (HL.out.below HW.out).int_at hlt
          obtain ⟨d1, d2⟩ := HBG.out.get j
          have HC := Lib.hid (fun k => cnt_take ns j k hlt)
          have hrj : okN (ns.getD j 0) = true := by
            have := HR.out
            unfold right at this
            rw [List.all_eq_true] at this
            rw [List.getD_eq_getElem?_getD, List.getElem?_eq_getElem hlt]
            exact this _ (List.getElem_mem hlt)
          have h015 : 0 ≤ ns.getD j 0 ∧ ns.getD j 0 ≤ 15 := by unfold okN at hrj; simpa using hrj
          clear hrj
          have HCD : Hid (cdI ns j = ((cdOf ns j : Nat) : Int)) := Lib.hid rfl
          have HCE : Hid (cdOf ns j = if 1 ≤ ns.getD j 0 then revN (nx ns (ns.getD j 0).toNat + cnt (ns.take j) (ns.getD j 0).toNat).toNat (ns.getD j 0).toNat else 0) := Lib.hid rfl
          generalize ns.getD j 0 = v at *
          have ne2 : w2.heap.size + 1 ≠ g3 := by have := HG4.out; omega
          have ne3 : g3 ≠ w2.heap.size + 1 := fun e => ne2 e.symm
          obtain ⟨q, rfl⟩ := Int.eq_ofNat_of_zero_le h015.1
          by_cases h0 : 1 ≤ q
          · have x1 : decide (0 < (q : Int)) = true := by simp; omega
            have x1' : decide (0 < q) = true := by simp; omega
            have hq : q < 16 := by omega
            have hxv : nxAt ns j q = nx ns q + cnt (ns.take j) q := by unfold nxAt; rw [if_pos (by omega)]
            have hbn := nx_le ns (q - 1) (by omega) HM.out
            rw [Nat.sub_add_cancel h0] at hbn
            have hbt := cnt_take_le ns j q
            have hbz := nx_nonneg ns q
            obtain ⟨P, hP⟩ : ∃ P : Nat, nx ns q + cnt (ns.take j) q = (P : Int) := ⟨(nx ns q + cnt (ns.take j) q).toNat, by omega⟩
            have hPb : P ≤ 32768 := by
              have := two_pow_le q (by omega)
              omega
            have HP := Lib.hid hP
            have c1 := HX.out.cell hq
            have f1 := HX.out.free q
            rw [hxv, hP] at c1
            have f2 := HO.out.free j
            have c2 := HO.out.cell hlt
            obtain ⟨u, hu⟩ : ∃ u, (fillTo (cdI ns) ns.length j).getD j 0 = u := ⟨_, rfl⟩
            rw [hu] at c2
            have HCV : Hid (cdI ns j = ((revN P q : Nat) : Int)) := Lib.hid (by rw [HCD.out, HCE.out, if_pos (by omega)]; simp only [Int.toNat_natCast]; rw [hP]; rfl)
            clear hu hP hxv hbn hbt hbz HCD HCE h015
            go_wp2_with fail
            refine (rev_any P (q : Int) _ (by omega)).mono ?_
            rintro e wx ⟨rfl, rfl⟩
            rw [clampK_eq q (by omega)]
            obtain ⟨R, hR⟩ : ∃ R, revN P q = R := ⟨_, rfl⟩
            rw [hR] at HCV ⊢
            clear hR
            go_wp2
            go_round
            case rel =>
              refine ⟨j + 1, by omega, by go_num, Lib.hid ?_, Lib.hid ?_, Lib.hid ?_⟩
              · refine ArU.congr (ArU.put (show ArU (wr.setCell ⟨g3, j, none⟩ (.int .u32 (R : Int))) (w2.heap.size + 1) (nxAt ns j) from Whole.other HX.out (fun e => ne2 e) _) q _) fun k hk => ?_
                unfold nxAt
                by_cases e : k = q
                · subst e
                  rw [if_pos rfl, if_pos (by omega), HC.out, if_pos rfl, ← Int.add_assoc, HP.out]
                · rw [if_neg e]
                  by_cases e2 : 1 ≤ k
                  · rw [if_pos e2, if_pos e2, HC.out, if_neg (by omega)]
                    omega
                  · rw [if_neg e2, if_neg e2]
              · have := HO.out.put j (cdI ns j)
                rw [fillTo_set, HCV.out] at this
                exact ownAt_other this (p := ⟨w2.heap.size + 1, q, none⟩) ne3 _
              · exact (HW.out.setCell (p := ⟨g3, j, none⟩) (by have := HGW.out; have := HG4.out; simp; omega) _).setCell (p := ⟨w2.heap.size + 1, q, none⟩) (by have := HGW.out; simp; omega) _
            case measure => simp [intOf]; omega
          · obtain rfl : q = 0 := by omega
            have HC0 : Hid (cdI ns j = 0) := Lib.hid (by rw [HCD.out, HCE.out, if_neg (by omega)]; rfl)
            clear HCD HCE h015 h0
            go_wp2
            go_round
            case rel =>
              refine ⟨j + 1, by omega, by go_num, Lib.hid ?_, Lib.hid ?_, HW⟩
              · refine ArU.congr HX.out fun k hk => ?_
                unfold nxAt
                by_cases e2 : 1 ≤ k
                · rw [if_pos e2, if_pos e2, HC.out, if_neg (by omega)]
                  omega
                · rw [if_neg e2, if_neg e2]
              · rw [← fillTo_skip _ _ _ HC0.out]
                exact HO.out
            case measure => simp [intOf]; omega
        · obtain rfl : j = ns.length := by omega
          have HF : Hid (fillTo (cdI ns) ns.length ns.length = (List.range ns.length).map (cdI ns)) := Lib.hid (fillTo_all _ _ _ (Nat.le_refl _))
          go_wp2
          go_ret2
          exact ⟨g3, rfl, HF.out ▸ HO.out, HW.out⟩
end Go.Proofs.Ytfbfbkgpcpidcaa
