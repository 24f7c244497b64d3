/- How many codes of each length there are. -/
import Derived.Test.YtfbfbkgpcpidcaaRows
import Derived.Test.YtfbfbkgpcpidcaaOver
import Derived.Test.YtfbfbkgpcpidcaaList
import Derived.Test.YtfbfbkgpcpidcaaBits
import Derived.Test.YtfbfbkgpcpidcaaBlk
import Derived.Test.YtfbfbkgpcpidcaaFill
import Derived.Test.YtfbfbkgpcpidcaaSoft
import Derived.WalkSpells
import Derived.WalkLawsBesides
import Derived.Lib.Hide
import Derived.LoopTactic
namespace Go.Proofs.Ytfbfbkgpcpidcaa
open Go.RowKit

def cellsF (f : Nat → Int) : Array Value := ((List.range 16).map fun i => Value.int .i64 (f i)).toArray
theorem cellsF_size (f : Nat → Int) : (cellsF f).size = 16 := by simp [cellsF]
theorem cellsF_at (f : Nat → Int) (i : Nat) (h : i < 16) : (cellsF f)[i]? = some (.int .i64 (f i)) := by
  simp [cellsF, h]
theorem cellsF_put (f : Nat → Int) (i : Nat) (v : Int) : (cellsF f).setIfInBounds i (.int .i64 v) = cellsF (fun k => if k = i then v else f k) := by
  apply Array.ext
  · simp [cellsF]
  · intro j h1 h2
    have h3 : j < 16 := by simpa [cellsF] using h2
    by_cases h : i = j
    · subst h; simp [cellsF]
    · have h4 : ¬ j = i := fun e => h e.symm
      simp [cellsF, Array.getElem_setIfInBounds, h, h4]
theorem cellsF_one (f : Nat → Int) : (cellsF f).all (·.oneCell') = true := by
  simp [cellsF, Array.all_eq_true, Value.oneCell']
theorem cellsF_congr {f g : Nat → Int} (h : ∀ k, k < 16 → f k = g k) : cellsF f = cellsF g := by
  unfold cellsF
  congr 1
  exact List.map_congr_left fun k hk => by rw [h k (List.mem_range.1 hk)]
theorem cellsF_zero : cellsF (fun _ => 0) = #[.int .i64 0, .int .i64 0, .int .i64 0, .int .i64 0, .int .i64 0, .int .i64 0, .int .i64 0, .int .i64 0, .int .i64 0, .int .i64 0, .int .i64 0, .int .i64 0, .int .i64 0, .int .i64 0, .int .i64 0, .int .i64 0] := rfl
/-- Block g is an array of sixteen numbers. -/
def Arr (w : World) (g : Nat) (f : Nat → Int) : Prop := Whole w g 35 (cellsF f)
theorem Arr.cell {w : World} {g : Nat} {f : Nat → Int} (h : Arr w g f) {i : Nat} (hi : i < 16) : w.cell? ⟨g, i, none⟩ = some (.int .i64 (f i)) := (Whole.cell h i).trans (cellsF_at f i hi)
theorem Arr.free {w : World} {g : Nat} {f : Nat → Int} (h : Arr w g f) (i : Nat) : w.frozen? ⟨g, i, none⟩ = false := Whole.free h i
theorem Arr.put {w : World} {g : Nat} {f : Nat → Int} (h : Arr w g f) (i : Nat) (v : Int) : Arr (w.setCell ⟨g, i, none⟩ (.int .i64 v)) g (fun k => if k = i then v else f k) := Whole.put h i _ (cellsF_put f i v)
theorem Arr.congr {w : World} {g : Nat} {f f' : Nat → Int} (h : Arr w g f) (e : ∀ k, k < 16 → f k = f' k) : Arr w g f' := by
  unfold Arr at *
  rw [← cellsF_congr e]; exact h
def cnt (ns : List Int) (k : Nat) : Int := ((ns.count (k : Int) : Nat) : Int)
theorem cnt_take (ns : List Int) (j k : Nat) (h : j < ns.length) : cnt (ns.take (j + 1)) k = cnt (ns.take j) k + (if ns.getD j 0 = (k : Int) then 1 else 0) := by
  unfold cnt
  rw [List.take_succ_eq_append_getElem h, List.count_append, List.getD_eq_getElem?_getD, List.getElem?_eq_getElem h]
  simp only [List.count_singleton, Option.getD_some, beq_iff_eq]
  split <;> simp
theorem cnt_le (ns : List Int) (k : Nat) : 0 ≤ cnt ns k ∧ cnt ns k ≤ ns.length := by
  unfold cnt
  have := List.count_le_length (a := (k : Int)) (l := ns)
  omega
def okN (x : Int) : Bool := decide (0 ≤ x) && decide (x ≤ 15)
def right (ns : List Int) : Bool := ns.all okN
theorem right_take (ns : List Int) (j : Nat) (h : j < ns.length) : right (ns.take (j + 1)) = (right (ns.take j) && okN (ns.getD j 0)) := by
  unfold right
  rw [List.take_succ_eq_append_getElem h, List.all_append, List.getD_eq_getElem?_getD, List.getElem?_eq_getElem h]
  simp
def Big (ns : List Int) : Prop := ∀ x ∈ ns, -9223372036854775808 ≤ x ∧ x ≤ 9223372036854775807
theorem Big.get {ns : List Int} (h : Big ns) (k : Nat) : -9223372036854775808 ≤ ns.getD k 0 ∧ ns.getD k 0 ≤ 9223372036854775807 := by
  rcases Nat.lt_or_ge k ns.length with hk | hk
  · rw [List.getD_eq_getElem?_getD, List.getElem?_eq_getElem hk]
    exact h _ (List.getElem_mem hk)
  · rw [List.getD_eq_getElem?_getD, List.getElem?_eq_none hk]
    simp
theorem below_setRow {B g : Nat} {w w' : World} (h : Below B w w') (hg : B ≤ g) (cs : Array Value) : Below B w (w'.setRow g cs) :=
  h.trans ⟨rfl, rfl, rfl, by simp, fun k hk => setRow_other w' g k cs (by omega)⟩
theorem info35 : (Try.prog.info? 35).map (·.size) = some 16 := by kernel_rfl
set_option maxHeartbeats 1000000 in
theorem tally_any (A : Option Addr) (n c : Nat) (ns : List Int) (S : Nat → Prop) (w : World) (hL : Lst w S 1 A n (ns.map (Value.int .i64))) (hs : ∀ b, S b → b < w.heap.size) (hb : Big ns) (hl : n ≤ 1000000) :
    Calls Try.prog 14 #[.slice A n c] w fun e w' => e = .returned (.tuple #[.agg (cellsF (cnt ns)), .bool (right ns)]) ∧ Below w.heap.size w w' := by
  have hn : ns.length = n := by have := hL.len; simpa using this
  subst hn
  have HL := Lib.hid hL
  have HS := Lib.hid hs
  have HB := Lib.hid hb
  clear hL hb hs
  go_enter Try.func14, Try.ntmps14
  go_wp2
  go_loopw [5, 10] (fun r i wr => ∃ k : Nat, k ≤ ns.length ∧ i = .int .i64 k ∧ r = .bool (right (ns.take k)) ∧ Hid (Arr wr (w.heap.size + 1) (cnt (ns.take k))) ∧ Hid (∃ cs, Whole wr w.heap.size 35 cs ∧ cs.size = 16) ∧ Hid (Below w.heap.size w wr)) (fun _ i _ => ns.length - (intOf i).toNat)
  case atStart =>
    refine ⟨0, Nat.zero_le _, rfl, rfl, Lib.hid ?_, Lib.hid ⟨#[.int .i64 0, .int .i64 0, .int .i64 0, .int .i64 0, .int .i64 0, .int .i64 0, .int .i64 0, .int .i64 0, .int .i64 0, .int .i64 0, .int .i64 0, .int .i64 0, .int .i64 0, .int .i64 0, .int .i64 0, .int .i64 0], ?_, rfl⟩, Lib.hid ?_⟩
    · refine Arr.congr (f := fun _ => 0) ?_ (fun k _ => by simp [cnt])
      unfold Arr
      rw [cellsF_zero]
      exact Whole.new _ 35 _ (by simp)
    · exact (Whole.new _ 35 _ rfl).alloc _
    · exact ((Below.refl _ _).alloc (Nat.le_refl _) _).alloc (by simp) _
  case round =>
    obtain ⟨k, hk, rfl, rfl, HA, HR, HW⟩ := hrel
    by_cases hlt : k < ns.length
    · have hL1 := HL.out.below HW.out
      obtain ⟨b, off, rfl, hbl, _, hc⟩ := hL1.int_at hlt
      obtain ⟨d1, d2⟩ := HB.out.get k
      have HT := Lib.hid (right_take ns k hlt)
      have HC := Lib.hid (fun j => cnt_take ns k j hlt)
      have hcl := cnt_le (ns.take k)
      have HCL : Hid (∀ j, cnt (ns.take k) j ≤ k) := Lib.hid (fun j => by have h1 := (hcl j).2; have h2 := List.length_take_le k ns; omega)
      have HCL0 : Hid (∀ j, 0 ≤ cnt (ns.take k) j) := Lib.hid (fun j => (hcl j).1)
      clear hcl
      generalize ns.getD k 0 = v at *
      by_cases h0 : 0 ≤ v ∧ v ≤ 15
      · obtain ⟨q, rfl⟩ := Int.eq_ofNat_of_zero_le h0.1
        have hq : q < 16 := by omega
        have x1 : decide (0 ≤ (q : Int)) = true := by simp
        have x2 : decide ((q : Int) ≤ 15) = true := by simp; omega
        have c1 := HA.out.cell hq
        have f1 := HA.out.free q
        have b1 := HCL.out q
        have b0 := HCL0.out q
        obtain ⟨y, hy⟩ : ∃ y, cnt (ns.take k) q = y := ⟨_, rfl⟩
        rw [hy] at c1 b1 b0
        have HY := Lib.hid hy
        clear hy
        go_wp2
        go_round
        case rel =>
          refine ⟨k + 1, by omega, by go_num, ?_, Lib.hid ?_, Lib.hid ?_, Lib.hid ?_⟩
          · rw [HT.out]; simp [okN, x2]
          · refine (HA.out.put q _).congr fun j hj => ?_
            rw [HC.out]
            by_cases e : j = q
            · subst e
              simp
              rw [HY.out]
            · rw [if_neg e, if_neg (by omega)]; omega
          · obtain ⟨cs, h1, h2⟩ := HR.out
            exact ⟨cs, h1.other (by simp) _, h2⟩
          · exact HW.out.setCell (by simp) _
        case measure => simp [intOf]; omega
      · have hz : okN v = false := by unfold okN; simp; omega
        have HZ := Lib.hid hz
        clear hz
        by_cases h1 : 0 ≤ v
        · have x1 : decide (0 ≤ v) = true := by simpa using h1
          have x2 : decide (v ≤ 15) = false := by simp; omega
          clear h0 h1
          go_wp2
          go_round
          case rel =>
            refine ⟨k + 1, by omega, by go_num, ?_, Lib.hid ?_, HR, HW⟩
            · rw [HT.out, HZ.out]; simp
            · refine HA.out.congr fun j hj => ?_
              rw [HC.out, if_neg ?_]
              · omega
              · intro e; subst e; simp at x2; omega
          case measure => simp [intOf]; omega
        · have x1 : decide (0 ≤ v) = false := by simpa using h1
          clear h0
          go_wp2
          go_round
          case rel =>
            refine ⟨k + 1, by omega, by go_num, ?_, Lib.hid ?_, HR, HW⟩
            · rw [HT.out, HZ.out]; simp
            · refine HA.out.congr fun j hj => ?_
              rw [HC.out, if_neg ?_]
              · omega
              · intro e; subst e; omega
          case measure => simp [intOf]; omega
    · have hk' : k = ns.length := by omega
      subst hk'
      rw [List.take_of_length_le (Nat.le_refl _)] at *
      obtain ⟨cs, h1, h2⟩ := HR.out
      have H1 := Lib.hid h1
      have H2 := Lib.hid h2
      clear h1 h2 HR
      go_wp2_with (first
        | refine wpList_load_row rfl 35 (.tmp 4) rfl (w.heap.size + 1) rfl 35 _ (0, 0) _ HA.out Try.underlying35 rfl (by rw [cellsF_size]; exact info35) ?_
        | refine wpList_store_row rfl 35 (.tmp 2) (.tmp 26) rfl w.heap.size (cellsF (cnt ns)) rfl rfl 35 cs H1.out (by rw [cellsF_size]; exact info35) (by rw [H2.out, cellsF_size]) (cellsF_one _) ?_)
      refine bodyPost_ret (v := .tuple #[.agg (cellsF (cnt ns)), .bool (right ns)]) ?_ rfl ⟨rfl, ?_⟩
      · rw [results_cell_tmp (p := 2) (u := 3) (ty := 35) rfl]
        rw [show asAddr (Array.getD _ 2 undef) = pure ⟨w.heap.size, 0, none⟩ from rfl]
        simp only [Sem.run_pure, Result.andThen_ok]
        rw [run_loadVar_row _ w.heap.size 35 35 (cellsF (cnt ns)) (0, 0) _ (setRow_heap _ _ _ _ 35 _ H1.out) Try.underlying35 rfl (by rw [cellsF_size]; exact info35)]
        rfl
      · exact below_setRow HW.out (Nat.le_refl _) _
end Go.Proofs.Ytfbfbkgpcpidcaa
