/- The page's example; the kind of a set turned round. -/
import Derived.Test.YtfbfbkgpcpidcaaC7
namespace Go.Proofs.Ytfbfbkgpcpidcaa
open Go.RowKit

theorem OwnAt.u32_at {w : World} {base g n c : Nat} {e : TypeId} {ns : List Int} (h : OwnAt w base e .u32 g n c ns) {j : Nat} (hj : j < n) : w.cell? ⟨g, j, none⟩ = some (.int .u32 (ns.getD j 0)) := OwnAt.cell h hj
theorem awake_facts : right [2, 1, 3, 3] = true ∧ sumTo [2, 1, 3, 3] 15 ≤ 32768 ∧ (List.range 4).map (cdI [2, 1, 3, 3]) = [1, 0, 3, 7] := by decide +kernel
theorem awake_any (w : World) : Calls Try.prog 6 #[] w fun e w' => e = .returned (.bool true) ∧ Below w.heap.size w w' := by
  obtain ⟨q1, q2, q3⟩ := awake_facts
  have Q1 := Lib.hid q1
  have Q2 := Lib.hid q2
  have Q3 := Lib.hid q3
  clear q1 q2 q3
  go_enter Try.func6, Try.ntmps6
  go_wp2_with fail
  have hL := Lst.new (size := 1) w 3 #[.int .i64 2, .int .i64 1, .int .i64 3, .int .i64 3] 4 rfl (fr := (0, 0)) rfl
  refine (codes_any (some ⟨w.heap.size, 0, none⟩) 4 4 [2, 1, 3, 3] _ _ hL (fun b e => by subst e; simp) (by intro x hx; simp at hx; omega) (by omega) Q1.out Q2.out).mono ?_
  rintro e w1 ⟨g, rfl, ho, hb⟩
  rw [Q3.out] at ho
  have HB := Lib.hid (((Below.refl w.heap.size w).alloc (Nat.le_refl _) (.cells #[.int .i64 2, .int .i64 1, .int .i64 3, .int .i64 3] 3)).trans (hb.mono (by simp)))
  have c0 := ho.cell (j := 0) (by omega)
  have c1 := ho.cell (j := 1) (by omega)
  have c2 := ho.cell (j := 2) (by omega)
  have c3 := ho.cell (j := 3) (by omega)
  simp at c0 c1 c2 c3
  clear ho hb hL
  go_wp2
  go_ret
  exact ⟨rfl, HB.out⟩
theorem cnt_rev (ns : List Int) : cnt ns.reverse = cnt ns := by
  funext k
  unfold cnt
  rw [List.count_reverse]
theorem right_rev (ns : List Int) : right ns.reverse = right ns := by
  unfold right
  rw [List.all_reverse]
theorem codesTo_rev (ns : List Int) (k : Nat) : codesTo ns.reverse k = codesTo ns k := by
  induction k with
  | zero => rfl
  | succ k ih => simp only [codesTo]; rw [ih, cnt_rev]
theorem sumTo_rev (ns : List Int) (k : Nat) : sumTo ns.reverse k = sumTo ns k := by
  induction k with
  | zero => rfl
  | succ k ih => simp only [sumTo]; rw [ih, cnt_rev]
theorem kindOf_rev (ns : List Int) : kindOf ns.reverse = kindOf ns := by
  unfold kindOf
  rw [right_rev, codesTo_rev, sumTo_rev, cnt_rev]
theorem srt_rev (ns : List Int) : (srt ns.reverse 15).length = (srt ns 15).length := by
  have h1 := srt_len ns.reverse 15
  have h2 := srt_len ns 15
  rw [codesTo_rev] at h1
  omega
set_option maxHeartbeats 1000000 in
theorem turned_law (A : Option Addr) (n c : Nat) (ns : List Int) (W : World) (hL : Lst W (fun b => b < W.heap.size) 1 A n (ns.map (Value.int .i64))) (hb : Big ns) (hcap : n ≤ 9223372036854775807) :
    Calls Try.prog 5 #[.slice A n c] W fun e w' => e = .returned (.bool true) ∧ Below W.heap.size W w' := by
  obtain ⟨i0, hi, hz0, hz1, hz2⟩ := info_parts info3
  have hn : ns.length = n := by have := hL.len; simpa using this
  subst hn
  have HL := Lib.hid hL
  have HBG := Lib.hid hb
  clear hL hb
  go_enter Try.func5, Try.ntmps5
  go_wp2_with fail
  refine (awake_any W).mono ?_
  rintro e w1 ⟨rfl, hb1⟩
  have HB1 := Lib.hid hb1
  clear hb1
  by_cases h4 : 400 < ns.length
  · have x4 : decide (400 < ns.length) = true := by simpa using h4
    go_wp2
    go_ret
    exact ⟨rfl, HB1.out⟩
  · have x4 : decide (400 < ns.length) = false := by simpa using h4
    have hl : ns.length ≤ 400 := by omega
    clear h4 hcap
    go_wp2
    go_loopw [3, 4] (fun o i wr => ∃ (k m : Nat) (A2 : Option Addr) (c2 : Nat), k + m = ns.length ∧ i = .int .i64 ((k : Int) - 1) ∧ o = .slice A2 m c2 ∧ Hid (wr.ownsRow W.heap.size 3 1 (.slice A2 m c2) m ((ns.drop k).reverse.map (Value.int .i64))) ∧ Hid (Below W.heap.size W wr)) (fun _ i _ => (intOf i + 1).toNat)
    case atStart => exact ⟨ns.length, 0, none, 0, by omega, by go_num, rfl, Lib.hid (by simp [World.ownsRow]), HB1⟩
    case round =>
      obtain ⟨k, m, A2, c2, hkm, rfl, rfl, HO, HW⟩ := hrel
      by_cases hlt : 1 ≤ k
      · obtain ⟨k, rfl⟩ : ∃ k', k = k' + 1 := ⟨k - 1, by omega⟩
        have hkl : k < ns.length := by omega
        obtain ⟨b, off, rfl, hbl, _, hc⟩ := (HL.out.below HW.out).int_at hkl
        obtain ⟨d1, d2⟩ := HBG.out.get k
        have HD : Hid ((ns.drop k).reverse = (ns.drop (k + 1)).reverse ++ [ns.getD k 0]) := Lib.hid (by
          rw [List.drop_eq_getElem_cons hkl, List.reverse_cons, List.getD_eq_getElem?_getD, List.getElem?_eq_getElem hkl]; rfl)
        generalize ns.getD k 0 = v at *
        have y0 : ((k + 1 : Nat) : Int) - 1 = k := by omega
        rw [y0]
        clear y0
        go_wp2_with (at_builtin; refine wpList_append_list _ rfl (.tmp 17) (.tmp 22) 22 rfl W.heap.size 3 i0 (.int .i64 0) 1 8 Try.underlying22 hi hz0 hz1 hz2 rfl (by decide) _ m _ rfl (World.ownsRow.alloc HO.out _) _ (some ⟨wr.heap.size, 0, none⟩) 1 1 [.int .i64 v] rfl (Lst.new wr 3 #[.int .i64 v] 1 rfl rfl) (by simp [Value.oneCell']) (by unfold maxLen; omega) (by omega) (by have := HW.out.size; simp; omega) ?_)
        intro A4 c4 x4 hown4 hgrow4 hat4
        have HO4 : Hid (x4.ownsRow W.heap.size 3 1 (.slice A4 (m + 1) c4) (m + 1) ((ns.drop k).reverse.map (Value.int .i64))) := by
          rw [HD.out, List.map_append]
          exact Lib.hid (by simpa using hown4)
        have HW4 := Lib.hid ((HW.out.alloc HW.out.size _).grown hgrow4 (by have := HW.out.size; simp; omega) (fun g e => (HO.out.lt g e).1))
        clear hown4 hgrow4 hat4 HD
        go_wp2
        exact ⟨⟨k, m + 1, A4, c4, by omega, by go_num, by simp, HO4, HW4⟩, by simp [intOf]⟩
      · obtain rfl : k = 0 := by omega
        obtain rfl : m = ns.length := by omega
        rw [List.drop_zero] at HO
        go_wp2_with fail
        refine (kind_any A ns.length c ns _ wr (HL.out.below HW.out) (fun b h => Nat.lt_of_lt_of_le h HW.out.size) HBG.out (by omega)).mono ?_
        rintro e w2 ⟨rfl, hb2⟩
        have HW2 := Lib.hid (HW.out.trans (hb2.mono HW.out.size))
        have hlr := (Lst.of_own HO.out).below hb2
        have HLR := Lib.hid hlr.and_lt
        clear hb2 hlr
        go_wp2_with fail
        refine (kind_any A2 ns.length c2 ns.reverse _ w2 HLR.out (fun b h => h.2) (fun x hx => HBG.out x (by simpa using hx)) (by omega)).mono ?_
        rintro e w3 ⟨rfl, hb3⟩
        rw [kindOf_rev]
        have HW3 := Lib.hid (HW2.out.trans (hb3.mono HW2.out.size))
        have HLR3 := Lib.hid (HLR.out.below hb3)
        have hs3 := hb3.size
        clear hb3
        go_wp2_with fail
        refine (sorted_any A ns.length c ns _ w3 (HL.out.below HW3.out) (fun b h => Nat.lt_of_lt_of_le h HW3.out.size) HBG.out (by omega)).mono ?_
        rintro e w4 ⟨g4, rfl, _, hb4⟩
        have HW4 := Lib.hid (HW3.out.trans (hb4.mono HW3.out.size))
        have HLR4 := Lib.hid (HLR3.out.below hb4)
        have hs4 := hb4.size
        clear hb4
        go_wp2_with fail
        refine (sorted_any A2 ns.length c2 ns.reverse _ w4 HLR4.out (fun b h => by have := h.2; omega) (fun x hx => HBG.out x (by simpa using hx)) (by omega)).mono ?_
        rintro e w5 ⟨g5, rfl, _, hb5⟩
        rw [srt_rev]
        have HW5 := Lib.hid (HW4.out.trans (hb5.mono HW4.out.size))
        clear hb5
        go_wp2
        go_ret
        exact ⟨rfl, HW5.out⟩
end Go.Proofs.Ytfbfbkgpcpidcaa
