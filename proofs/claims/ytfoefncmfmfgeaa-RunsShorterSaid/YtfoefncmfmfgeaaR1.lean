/- Runs, as lists; zeros, repeated. -/
import Derived.Test.YtfoefncmfmfgeaaChecked
import Derived.Test.YtfoefncmfmfgeaaRows
import Derived.Test.YtfoefncmfmfgeaaOver
import Derived.Test.YtfoefncmfmfgeaaList
import Derived.Test.YtfoefncmfmfgeaaBits
import Derived.Test.YtfoefncmfmfgeaaBlk
import Derived.Test.YtfoefncmfmfgeaaFill
import Derived.Test.YtfoefncmfmfgeaaSoft
import Derived.Test.YtfoefncmfmfgeaaPair
import Derived.WalkSpells
import Derived.WalkLawsBesides
import Derived.Lib.Hide
import Derived.LoopTactic
import Derived.OwnWalk
import Derived.Deep.QuietTactic
import Derived.BigQuiet
import Derived.Deep.RegionLaw
import Derived.Deep.AppendLies
namespace Go.Proofs.Ytfoefncmfmfgeaa
open Go.RowKit

theorem info_parts {P : Program} {e : TypeId} {x} (h : (P.info? e).map (fun i => (i.zero, i.size, i.bytes)) = some x) : ∃ i, P.info? e = some i ∧ i.zero = x.1 ∧ i.size = x.2.1 ∧ i.bytes = x.2.2 := by
  cases hi : P.info? e with
  | none => rw [hi] at h; cases h
  | some i => rw [hi] at h; injection h with h; subst h; exact ⟨i, rfl, rfl, rfl, rfl⟩
theorem info3 : (Try.prog.info? 3).map (fun i => (i.zero, i.size, i.bytes)) = some (some (.int .i64 0), 1, 8) := by kernel_rfl
theorem info31 : (Try.prog.info? 31).map (fun i => (i.zero, i.size, i.bytes)) = some (some (.agg #[.int .i64 0, .int .i64 0]), 2, 16) := by kernel_rfl

def runN (s e : Int) : Nat := if s = 16 then 3 + e.toNat else if s = 17 then 3 + e.toNat else if s = 18 then 11 + e.toNat else 1
def runV (front : List Int) (s : Int) : Int := if s < 16 then s else if s = 16 then front.getD (front.length - 1) 0 else 0
def okR (front : List Int) (s e : Int) : Prop := (0 ≤ s ∧ s ≤ 15 ∧ e = 0) ∨ (s = 16 ∧ 0 ≤ e ∧ e ≤ 3 ∧ front ≠ []) ∨ (s = 17 ∧ 0 ≤ e ∧ e ≤ 7) ∨ (s = 18 ∧ 0 ≤ e ∧ e ≤ 127)
def app (front : List Int) (r : Int × Int) : List Int := front ++ List.replicate (runN r.1 r.2) (runV front r.1)
def runL (front : List Int) : List (Int × Int) → List Int
  | [] => front
  | r :: l => runL (app front r) l
def okL (front : List Int) : List (Int × Int) → Prop
  | [] => True
  | r :: l => okR front r.1 r.2 ∧ okL (app front r) l
theorem runL_append (f : List Int) (a b : List (Int × Int)) : runL f (a ++ b) = runL (runL f a) b := by
  induction a generalizing f with
  | nil => rfl
  | cons r a ih => simp only [List.cons_append, runL]; exact ih _
theorem okL_append (f : List Int) (a b : List (Int × Int)) : okL f (a ++ b) ↔ okL f a ∧ okL (runL f a) b := by
  induction a generalizing f with
  | nil => simp [okL, runL]
  | cons r a ih => simp only [List.cons_append, runL, okL, ih, and_assoc]
theorem runL_snoc (f : List Int) (a : List (Int × Int)) (r : Int × Int) : runL f (a ++ [r]) = app (runL f a) r := by rw [runL_append]; rfl
theorem okL_snoc (f : List Int) (a : List (Int × Int)) (r : Int × Int) : okL f (a ++ [r]) ↔ okL f a ∧ okR (runL f a) r.1 r.2 := by rw [okL_append]; simp [okL]
/-- What runs tell: n times v, behind any lengths. -/
def Tell (v : Int) (n : Nat) (l : List (Int × Int)) : Prop := ∀ f, okL f l ∧ runL f l = f ++ List.replicate n v
theorem Tell.nil (v : Int) : Tell v 0 [] := fun f => ⟨trivial, by simp [runL]⟩
theorem Tell.snoc {v : Int} {n : Nat} {l : List (Int × Int)} (h : Tell v n l) (r : Int × Int) (hr : ∀ f, okR (f ++ List.replicate n v) r.1 r.2) (hv : ∀ f : List Int, runV (f ++ List.replicate n v) r.1 = v) : Tell v (n + runN r.1 r.2) (l ++ [r]) := by
  intro f
  obtain ⟨h1, h2⟩ := h f
  rw [okL_snoc, runL_snoc, h2]
  refine ⟨⟨h1, hr f⟩, ?_⟩
  unfold app
  rw [hv f, List.append_assoc, List.replicate_append_replicate]
theorem getD_last (f : List Int) (v : Int) (n : Nat) (h : 0 < n) : (f ++ List.replicate n v).getD ((f ++ List.replicate n v).length - 1) 0 = v := by
  rw [List.getD_eq_getElem?_getD, List.getElem?_append_right (by simp; omega)]
  rw [List.getElem?_replicate]
  rw [if_pos (by simp; omega)]
  rfl
theorem least_any (s : Int) (w : World) : Calls Try.prog 17 #[.int .i64 s] w fun e w' => e = .returned (.int .i64 ((runN s 0 : Nat) : Int)) ∧ w = w' := by
  by_cases h1 : s = 16
  · subst h1
    go_enter Try.func17, Try.ntmps17
    go_wp2
    go_ret
    exact ⟨rfl, rfl⟩
  · have x1 : (s == 16) = false := by simpa using h1
    by_cases h2 : s = 17
    · subst h2
      go_enter Try.func17, Try.ntmps17
      go_wp2
      go_ret
      exact ⟨rfl, rfl⟩
    · have x2 : (s == 17) = false := by simpa using h2
      by_cases h3 : s = 18
      · subst h3
        go_enter Try.func17, Try.ntmps17
        go_wp2
        go_ret
        exact ⟨rfl, rfl⟩
      · have x3 : (s == 18) = false := by simpa using h3
        have HR : Hid (runN s 0 = 1) := Lib.hid (by unfold runN; rw [if_neg h1, if_neg h2, if_neg h3])
        clear h1 h2 h3
        go_enter Try.func17, Try.ntmps17
        go_wp2
        go_ret
        rw [HR.out]
        exact ⟨rfl, rfl⟩
def Zs (v : Int) (n : Nat) (w : World) (e : Ending) (w' : World) : Prop :=
  ∃ A m c l, e = .returned (.slice A m c) ∧ w'.ownsRow w.heap.size 31 2 (.slice A m c) m (flat2 l) ∧ Tell v n l ∧ m ≤ n ∧ (v = 0 → 11 ≤ n → m < n) ∧ Below w.heap.size w w'
theorem flat2_snoc (l : List (Int × Int)) (r : Int × Int) : flat2 (l ++ [r]) = flat2 l ++ [.int .i64 r.1, .int .i64 r.2] := by simp [flat2]
set_option maxHeartbeats 2000000 in
theorem zeros_any (n : Nat) (w : World) (hn : n ≤ 1000000) : Calls Try.prog 12 #[.int .i64 (n : Nat)] w (Zs 0 n w) := by
  obtain ⟨i0, hi, hz0, hz1, hz2⟩ := info_parts info31
  simp only at hz0 hz1 hz2
  go_enter Try.func12, Try.ntmps12
  go_wp2
  go_loopw [0, 3] (fun nn o wr => ∃ (k m j : Nat) (A2 : Option Addr) (c2 : Nat) (l : List (Int × Int)), k + j = n ∧ nn = .int .i64 (k : Nat) ∧ o = .slice A2 m c2 ∧ Hid (wr.ownsRow w.heap.size 31 2 (.slice A2 m c2) m (flat2 l)) ∧ Hid (Tell 0 j l) ∧ m ≤ j ∧ (11 ≤ n → 0 < j → m < j) ∧ Hid (Below w.heap.size w wr)) (fun nn _ _ => (intOf nn).toNat)
  case atStart => exact ⟨n, 0, 0, none, 0, [], by omega, rfl, rfl, Lib.hid (by simp [World.ownsRow, flat2]), Lib.hid (Tell.nil 0), by omega, by omega, Lib.hid (Below.refl _ _)⟩
  case round =>
    obtain ⟨k, m, j, A2, c2, l, hkj, rfl, rfl, HO, HT, hmj, hst, HW⟩ := hrel
    have HST := Lib.hid hst
    clear hst
    by_cases hk : 0 < k
    · have hd : decide (0 < k) = true := by simpa using hk
      have L18 : Hid (∀ w, Calls Try.prog 17 #[.int .i64 18] w fun e w' => e = .returned (.int .i64 11) ∧ w = w') := Lib.hid (fun w => least_any 18 w)
      have L17 : Hid (∀ w, Calls Try.prog 17 #[.int .i64 17] w fun e w' => e = .returned (.int .i64 3) ∧ w = w') := Lib.hid (fun w => least_any 17 w)
      have L0 : Hid (∀ w, Calls Try.prog 17 #[.int .i64 0] w fun e w' => e = .returned (.int .i64 1) ∧ w = w') := Lib.hid (fun w => least_any 0 w)
      by_cases h11 : 11 ≤ k
      · have hd2 : decide (11 ≤ k) = true := by simpa using h11
        have hd2' : decide ((11 : Int) ≤ (k : Int)) = true := by simp; omega
        obtain ⟨x, hx⟩ : ∃ x : Nat, min (k - 11) 127 = x := ⟨_, rfl⟩
        have hmin : (if (127 : Int) < (k : Int) - 11 then (127 : Int) else (k : Int) - 11) = (x : Int) := by rw [← hx]; split <;> omega
        have hxb : x ≤ 127 ∧ x + 11 ≤ k := by omega
        obtain ⟨hxb1, hxb2⟩ := hxb
        clear hx
        go_wp2_with fail
        refine (L18.out _).mono ?_
        rintro e wx ⟨rfl, rfl⟩
        go_wp2_with fail
        refine (L18.out _).mono ?_
        rintro e wx ⟨rfl, rfl⟩
        go_wp2_with (at_builtin; refine wpList_append_list _ rfl (.tmp 24) (.tmp 26) 24 rfl w.heap.size 31 i0 (.agg #[.int .i64 0, .int .i64 0]) 2 16 Try.underlying24 hi hz0 hz1 hz2 rfl (by decide) _ m _ rfl (World.ownsRow.alloc (World.ownsRow.alloc HO.out _) _) _ (some ⟨wr.heap.size + 1, 0, none⟩) 1 1 [.int .i64 18, .int .i64 (x : Int)] rfl (Lst.new (size := 2) (wr.alloc (.cells #[.int .i64 18, .int .i64 (x : Int)] 31)) 31 #[.int .i64 18, .int .i64 (x : Int)] 1 rfl (by simp)) (by simp [Value.oneCell']) (by unfold maxLen; omega) (by omega) (by have := HW.out.size; simp; omega) ?_)
        intro A4 c4 x4 hown4 hgrow4 hat4
        have HO4 : Hid (x4.ownsRow w.heap.size 31 2 (.slice A4 (m + 1) c4) (m + 1) (flat2 (l ++ [(18, (x : Int))]))) := by
          rw [flat2_snoc]
          exact Lib.hid hown4
        have HW4 := Lib.hid (((HW.out.alloc HW.out.size (.cells #[.int .i64 18, .int .i64 (x : Int)] 31)).alloc (by have := HW.out.size; simp; omega) (.cells #[.int .i64 18, .int .i64 (x : Int)] 31)).grown hgrow4 (by have := HW.out.size; simp; omega) (fun g e => (HO.out.lt g e).1))
        have hR4 : Whole x4 wr.heap.size 31 #[.int .i64 18, .int .i64 (x : Int)] := ((Whole.new wr 31 #[.int .i64 18, .int .i64 (x : Int)] rfl).alloc _).grown hgrow4 (fun e => by have := (HO.out.lt _ e.symm).2; omega)
        have c0 := hR4.cell 0
        have c1 := hR4.cell 1
        simp at c0 c1
        clear hown4 hgrow4 hat4 hR4
        obtain ⟨y, hy⟩ : ∃ y : Nat, 11 + x = y := ⟨_, rfl⟩
        obtain ⟨k', hk'⟩ : ∃ k' : Nat, k - y = k' := ⟨_, rfl⟩
        have hyk : y ≤ k := by omega
        have e1 : IntKind.i64.wrap (11 + (x : Int)) = (y : Int) := by rw [IntWalk.i64_in _ (by omega)]; omega
        have e2 : IntKind.i64.wrap ((k : Int) - (y : Int)) = (k' : Int) := by rw [IntWalk.i64_in _ (by omega)]; omega
        have HYK : Hid (k' + y = k) := Lib.hid (by omega)
        have HY := Lib.hid hy
        clear hy hk'
        go_wp2
        go_quiet ((go_at_call 17; exact Calls.quiet_eq (L18.out _)))
        go_wp2
        go_round
        case rel =>
          have hy := HY.out
          have hyk2 := HYK.out
          refine ⟨k', m + 1, j + y, A4, c4, l ++ [(18, (x : Int))], by omega, rfl, rfl, Lib.hid HO4.out, Lib.hid ?_, by omega, ?_, Lib.hid HW4.out.drewN' _⟩
          · have := HT.out.snoc (18, (x : Int)) (fun f => .inr (.inr (.inr ⟨rfl, by simp, by simp only; omega⟩))) (fun f => by simp [runV])
            rw [show runN (18, (x : Int)).1 (18, (x : Int)).2 = y from by simp [runN]; omega] at this
            exact this
          · intro _ _; omega
        case measure =>
          have hy := HY.out
          have hyk2 := HYK.out
          simp [intOf]; omega
      · have hd2 : decide (11 ≤ k) = false := by simpa using h11
        have hd2' : decide ((11 : Int) ≤ (k : Int)) = false := by simp; omega
        by_cases h3 : 3 ≤ k
        · have hd3 : decide (3 ≤ k) = true := by simpa using h3
          have hd3' : decide ((3 : Int) ≤ (k : Int)) = true := by simp; omega
          obtain ⟨x, rfl⟩ : ∃ x, k = x + 3 := ⟨k - 3, by omega⟩
          have hxb1 : x ≤ 7 := by omega
          go_wp2_with fail
          refine (L18.out _).mono ?_
          rintro e wx ⟨rfl, rfl⟩
          go_wp2_with fail
          refine (L17.out _).mono ?_
          rintro e wx ⟨rfl, rfl⟩
          go_wp2_with fail
          refine (L17.out _).mono ?_
          rintro e wx ⟨rfl, rfl⟩
          go_wp2_with (at_builtin; refine wpList_append_list _ rfl (.tmp 24) (.tmp 26) 24 rfl w.heap.size 31 i0 (.agg #[.int .i64 0, .int .i64 0]) 2 16 Try.underlying24 hi hz0 hz1 hz2 rfl (by decide) _ m _ rfl (World.ownsRow.alloc (World.ownsRow.alloc HO.out _) _) _ (some ⟨wr.heap.size + 1, 0, none⟩) 1 1 [.int .i64 17, .int .i64 (x : Int)] rfl (Lst.new (size := 2) (wr.alloc (.cells #[.int .i64 17, .int .i64 (x : Int)] 31)) 31 #[.int .i64 17, .int .i64 (x : Int)] 1 rfl (by simp)) (by simp [Value.oneCell']) (by unfold maxLen; omega) (by omega) (by have := HW.out.size; simp; omega) ?_)
          intro A4 c4 x4 hown4 hgrow4 hat4
          have HO4 : Hid (x4.ownsRow w.heap.size 31 2 (.slice A4 (m + 1) c4) (m + 1) (flat2 (l ++ [(17, (x : Int))]))) := by
            rw [flat2_snoc]
            exact Lib.hid hown4
          have HW4 := Lib.hid (((HW.out.alloc HW.out.size (.cells #[.int .i64 17, .int .i64 (x : Int)] 31)).alloc (by have := HW.out.size; simp; omega) (.cells #[.int .i64 17, .int .i64 (x : Int)] 31)).grown hgrow4 (by have := HW.out.size; simp; omega) (fun g e => (HO.out.lt g e).1))
          have hR4 : Whole x4 wr.heap.size 31 #[.int .i64 17, .int .i64 (x : Int)] := ((Whole.new wr 31 #[.int .i64 17, .int .i64 (x : Int)] rfl).alloc _).grown hgrow4 (fun e => by have := (HO.out.lt _ e.symm).2; omega)
          have c0 := hR4.cell 0
          have c1 := hR4.cell 1
          simp at c0 c1
          clear hown4 hgrow4 hat4 hR4
          obtain ⟨y, hy⟩ : ∃ y : Nat, 3 + x = y := ⟨_, rfl⟩
          obtain ⟨k', hk'⟩ : ∃ k' : Nat, x + 3 - y = k' := ⟨_, rfl⟩
          have hyk : y ≤ x + 3 := by omega
          have e1 : IntKind.i64.wrap (3 + (x : Int)) = (y : Int) := by rw [IntWalk.i64_in _ (by omega)]; omega
          have e2 : IntKind.i64.wrap ((x : Int) + 3 - (y : Int)) = (k' : Int) := by rw [IntWalk.i64_in _ (by omega)]; omega
          have HYK : Hid (k' + y = x + 3) := Lib.hid (by omega)
          have HY := Lib.hid hy
          clear hy hk'
          go_wp2
          go_quiet ((go_at_call 17; exact Calls.quiet_eq (L17.out _)))
          go_wp2
          go_round
          case rel =>
            have hy := HY.out
            have hyk2 := HYK.out
            refine ⟨k', m + 1, j + y, A4, c4, l ++ [(17, (x : Int))], by omega, rfl, rfl, Lib.hid HO4.out, Lib.hid ?_, by omega, ?_, Lib.hid HW4.out.drewN' _⟩
            · have := HT.out.snoc (17, (x : Int)) (fun f => .inr (.inr (.inl ⟨rfl, by simp, by simp only; omega⟩))) (fun f => by simp [runV])
              rw [show runN (17, (x : Int)).1 (17, (x : Int)).2 = y from by simp [runN]; omega] at this
              exact this
            · intro h _; have := HST.out h; omega
          case measure =>
            have hy := HY.out
            have hyk2 := HYK.out
            simp [intOf]; omega
        · have hd3 : decide (3 ≤ k) = false := by simpa using h3
          have hd3' : decide ((3 : Int) ≤ (k : Int)) = false := by simp; omega
          go_wp2_with fail
          refine (L18.out _).mono ?_
          rintro e wx ⟨rfl, rfl⟩
          go_wp2_with fail
          refine (L17.out _).mono ?_
          rintro e wx ⟨rfl, rfl⟩
          go_wp2_with (at_builtin; refine wpList_append_list _ rfl (.tmp 24) (.tmp 26) 24 rfl w.heap.size 31 i0 (.agg #[.int .i64 0, .int .i64 0]) 2 16 Try.underlying24 hi hz0 hz1 hz2 rfl (by decide) _ m _ rfl (World.ownsRow.alloc (World.ownsRow.alloc HO.out _) _) _ (some ⟨wr.heap.size + 1, 0, none⟩) 1 1 [.int .i64 0, .int .i64 0] rfl (Lst.new (size := 2) (wr.alloc (.cells #[.int .i64 0, .int .i64 0] 31)) 31 #[.int .i64 0, .int .i64 0] 1 rfl (by simp)) (by simp [Value.oneCell']) (by unfold maxLen; omega) (by omega) (by have := HW.out.size; simp; omega) ?_)
          intro A4 c4 x4 hown4 hgrow4 hat4
          have HO4 : Hid (x4.ownsRow w.heap.size 31 2 (.slice A4 (m + 1) c4) (m + 1) (flat2 (l ++ [(0, 0)]))) := by
            rw [flat2_snoc]
            exact Lib.hid hown4
          have HW4 := Lib.hid (((HW.out.alloc HW.out.size (.cells #[.int .i64 0, .int .i64 0] 31)).alloc (by have := HW.out.size; simp; omega) (.cells #[.int .i64 0, .int .i64 0] 31)).grown hgrow4 (by have := HW.out.size; simp; omega) (fun g e => (HO.out.lt g e).1))
          have hR4 : Whole x4 wr.heap.size 31 #[.int .i64 0, .int .i64 0] := ((Whole.new wr 31 #[.int .i64 0, .int .i64 0] rfl).alloc _).grown hgrow4 (fun e => by have := (HO.out.lt _ e.symm).2; omega)
          have c0 := hR4.cell 0
          have c1 := hR4.cell 1
          simp at c0 c1
          clear hown4 hgrow4 hat4 hR4
          obtain ⟨y, hy⟩ : ∃ y : Nat, 1 + 0 = y := ⟨_, rfl⟩
          obtain ⟨k', hk'⟩ : ∃ k' : Nat, k - y = k' := ⟨_, rfl⟩
          have hyk : y ≤ k := by omega
          have e1 : IntKind.i64.wrap (1 + 0) = (y : Int) := by rw [IntWalk.i64_in _ (by omega)]; omega
          have e2 : IntKind.i64.wrap ((k : Int) - (y : Int)) = (k' : Int) := by rw [IntWalk.i64_in _ (by omega)]; omega
          have HYK : Hid (k' + y = k) := Lib.hid (by omega)
          have HY := Lib.hid hy
          clear hy hk'
          go_wp2
          go_quiet ((go_at_call 17; exact Calls.quiet_eq (L0.out _)))
          go_wp2
          go_round
          case rel =>
            have hy := HY.out
            have hyk2 := HYK.out
            refine ⟨k', m + 1, j + y, A4, c4, l ++ [(0, 0)], by omega, by (congr 1; omega), rfl, Lib.hid HO4.out, Lib.hid ?_, by omega, ?_, Lib.hid HW4.out.drewN' _⟩
            · have := HT.out.snoc (0, 0) (fun f => .inl ⟨by simp, by simp, rfl⟩) (fun f => by simp [runV])
              rw [show runN (0, 0).1 (0, 0).2 = y from by simp [runN]; omega] at this
              exact this
            · intro h _; have := HST.out h; omega
          case measure =>
            have hy := HY.out
            have hyk2 := HYK.out
            simp [intOf]; omega
    · obtain rfl : k = 0 := by omega
      obtain rfl : j = n := by omega
      go_wp2
      go_ret
      exact ⟨A2, m, c2, l, rfl, HO.out, HT.out, hmj, fun _ h => HST.out h (by omega), HW.out⟩
end Go.Proofs.Ytfoefncmfmfgeaa
