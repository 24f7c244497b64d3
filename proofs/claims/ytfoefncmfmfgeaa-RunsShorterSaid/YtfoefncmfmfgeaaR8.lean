/- RunsShorter. -/
import Derived.Test.YtfoefncmfmfgeaaR6
namespace Go.Proofs.Ytfoefncmfmfgeaa
open Go.RowKit

theorem zer_rep (n : Nat) (h : 11 ≤ n) : Zer (List.replicate n (0 : Int)) 0 := by
  refine ⟨by simpa using h, fun i hi => ?_⟩
  rw [List.getD_eq_getElem?_getD, List.getElem?_replicate, Nat.zero_add, if_pos (by omega)]
  rfl
theorem zer_mid (a b : List Int) (n : Nat) (h : 11 ≤ n) : Zer (a ++ List.replicate n 0 ++ b) a.length := by
  refine ⟨by simp; omega, fun i hi => ?_⟩
  rw [List.getD_eq_getElem?_getD, List.getElem?_append_left (by simp; omega), List.getElem?_append_right (by omega), List.getElem?_replicate, if_pos (by omega)]
  rfl
theorem okNs_rep (n : Nat) : okNs (List.replicate n (0 : Int)) := by
  intro x hx
  rw [List.eq_of_mem_replicate hx]
  exact ⟨by omega, by omega⟩
theorem big_rep (n : Nat) : Big (List.replicate n (0 : Int)) := by
  intro x hx
  rw [List.eq_of_mem_replicate hx]
  omega
theorem big_append {a b : List Int} (ha : Big a) (hb : Big b) : Big (a ++ b) := fun x hx => by
  rcases List.mem_append.1 hx with h | h
  · exact ha x h
  · exact hb x h
theorem own_cap {w : World} {base size n c : Nat} {e : TypeId} {A : Option Addr} {xs : List Value} (h : w.ownsRow base e size (.slice A n c) n xs) : n ≤ c := by
  rcases h.2 with ⟨h3, h4⟩ | ⟨g, cap, cur, hv, hb', hh, x, _⟩
  · omega
  · injection hv with _ _ h3
    omega
set_option maxHeartbeats 2000000 in
theorem shorter_law (A B : Option Addr) (na nb ca cb n : Nat) (xa xb : List Int) (W : World) (hA : Lst W (fun b => b < W.heap.size) 1 A na (xa.map (Value.int .i64))) (hB : Lst W (fun b => b < W.heap.size) 1 B nb (xb.map (Value.int .i64))) (ba : Big xa) (bb : Big xb) (hn : n < 256) (h1 : na ≤ 9223372036854775807) (h2 : nb ≤ 9223372036854775807) :
    Calls Try.prog 4 #[.slice A na ca, .slice B nb cb, .int .u8 (n : Nat)] W fun e w' => e = .returned (.bool true) ∧ Below W.heap.size W w' := by
  obtain ⟨i0, hi, hz0, hz1, hz2⟩ := info_parts info3
  simp only at hz0 hz1 hz2
  have hna : xa.length = na := by have := hA.len; simpa using this
  have hnb : xb.length = nb := by have := hB.len; simpa using this
  have HA := Lib.hid hA
  have HB := Lib.hid hB
  have HBA := Lib.hid ba
  have HBB := Lib.hid bb
  have HNA := Lib.hid hna
  have HNB := Lib.hid hnb
  clear hA hB ba bb hna hnb
  go_enter Try.func4, Try.ntmps4
  go_wp2_with fail
  refine (awake_any W).mono ?_
  rintro e w1 ⟨rfl, hb1⟩
  have HW1 := Lib.hid hb1
  clear hb1
  by_cases ha : 100 < na
  · have x1 : decide (100 < na) = true := by simpa using ha
    go_wp2
    go_ret
    exact ⟨rfl, HW1.out⟩
  · have x1 : decide (100 < na) = false := by simpa using ha
    have ha' : na ≤ 100 := by omega
    clear ha h1
    by_cases hb : 100 < nb
    · have x2 : decide (100 < nb) = true := by simpa using hb
      go_wp2
      go_ret
      exact ⟨rfl, HW1.out⟩
    · have x2 : decide (100 < nb) = false := by simpa using hb
      have hb' : nb ≤ 100 := by omega
      clear hb h2
      by_cases h11 : n < 11
      · have x3 : decide (n < 11) = true := by simpa using h11
        have x3' : decide ((n : Int) < 11) = true := by simp; omega
        go_wp2
        go_ret
        exact ⟨rfl, HW1.out⟩
      · have x3 : decide (n < 11) = false := by simpa using h11
        have x3' : decide ((n : Int) < 11) = false := by simp; omega
        have hn11 : 11 ≤ n := by omega
        clear h11
        go_wp2_with (at_make
                     refine wpList_make_full _ rfl _ _ 22 rfl W.heap.size 3 i0 (.int .i64 0) 1 Try.underlying22 hi hz0 hz1 .i64 .i64 (n : Nat) (n : Nat) n rfl rfl (by simp) (by simp) (by rw [hz2]; omega) (by unfold maxLen; omega) HW1.out.size ?_
                     intro w2 hown hg
                     rw [toList_made_int] at hown
                     have HZ := Lib.hid hown
                     have HW2 := Lib.hid (HW1.out.grown hg HW1.out.size (fun _ h => by cases h))
                     clear hown hg)
        refine (pack_any _ n n (List.replicate n 0) _ w2 (Lst.of_own HZ.out).and_lt (fun b h => h.2) (big_rep n) (by omega) (Nat.le_refl _) (okNs_rep n)).mono ?_
        rintro e w3 ⟨AL, m, cl, l, rfl, ho, hpk, hb3⟩
        have hml : l.length = m := flat2_own_len ho
        have hmn : m < n := by
          have := hpk.2.2.2 0 (by simp; omega) (zer_rep n hn11)
          simp at this
          omega
        have HW3 := Lib.hid (HW2.out.trans (hb3.mono HW2.out.size))
        have HZ3 := Lib.hid (own_below HZ.out hb3)
        have x4 : decide (m < n) = true := by simpa using hmn
        have hmn' : m ≤ 256 := by omega
        clear ho hpk hb3 hml HZ
        go_wp2_with (at_builtin; refine wpList_append_list _ rfl (.tmp 35) (.tmp 36) 22 rfl W.heap.size 3 i0 (.int .i64 0) 1 8 Try.underlying22 hi hz0 hz1 hz2 rfl (by decide) (.slice (some ⟨w3.heap.size, 0, none⟩) 0 0) 0 [] rfl (World.ownsRow_made w3 #[] 0 HW3.out.size (by unfold maxLen; omega) rfl) _ A na ca _ rfl (Lst.alloc (HA.out.below HW3.out) _) oneCell_ints (by unfold maxLen; omega) (by omega) (by have := HW3.out.size; simp; omega) ?_)
        intro A4 c4 x4 hown4 hgrow4 hat4
        have HW4 := Lib.hid ((HW3.out.alloc HW3.out.size (.cells #[] 3)).grown hgrow4 (by have := HW3.out.size; simp; omega) (fun g e => by simp [Value.ownBlock] at e; have := HW3.out.size; omega))
        have HO4 : Hid (x4.ownsRow W.heap.size 3 1 (.slice A4 na c4) na (xa.map (Value.int .i64))) := Lib.hid (by simpa using hown4)
        have HZL := (Lst.of_own HZ3.out).and_lt
        have HZ4 := Lib.hid ((HZL.alloc (.cells #[] 3)).grown hgrow4 (fun b _ hb e => by
          simp [Value.ownBlock] at e
          omega))
        clear hown4 hgrow4 hat4 HZ3 HZL
        go_wp2_with (at_builtin; refine wpList_append_list _ rfl (.tmp 37) (.tmp 38) 22 rfl W.heap.size 3 i0 (.int .i64 0) 1 8 Try.underlying22 hi hz0 hz1 hz2 rfl (by decide) _ na _ rfl HO4.out _ _ n n _ rfl HZ4.out oneCell_ints (by unfold maxLen; omega) (by omega) HW4.out.size ?_)
        intro A5 c5 x5 hown5 hgrow5 hat5
        have HW5 := Lib.hid (HW4.out.grown hgrow5 HW4.out.size (fun g e => (HO4.out.lt g e).1))
        have HO5 : Hid (x5.ownsRow W.heap.size 3 1 (.slice A5 (na + n) c5) (na + n) ((xa ++ List.replicate n 0).map (Value.int .i64))) := Lib.hid (by simpa using hown5)
        clear hown5 hgrow5 hat5 HO4 HZ4
        go_wp2_with (at_builtin; refine wpList_append_list _ rfl (.tmp 39) (.tmp 40) 22 rfl W.heap.size 3 i0 (.int .i64 0) 1 8 Try.underlying22 hi hz0 hz1 hz2 rfl (by decide) _ (na + n) _ rfl HO5.out _ B nb cb _ rfl (HB.out.below HW5.out) oneCell_ints (by unfold maxLen; omega) (by omega) HW5.out.size ?_)
        intro A6 c6 x6 hown6 hgrow6 hat6
        have HW6 := Lib.hid (HW5.out.grown hgrow6 HW5.out.size (fun g e => (HO5.out.lt g e).1))
        obtain ⟨q, hq⟩ : ∃ q, na + n + nb = q := ⟨_, rfl⟩
        rw [hq] at hown6 ⊢
        obtain ⟨all, hall⟩ : ∃ all, xa ++ List.replicate n 0 ++ xb = all := ⟨_, rfl⟩
        have HO6 : Hid (x6.ownsRow W.heap.size 3 1 (.slice A6 q c6) q (all.map (Value.int .i64))) := Lib.hid (by rw [← hall]; simpa using hown6)
        have HZA : Hid (Zer all na) := Lib.hid (by rw [← hall, ← HNA.out]; exact zer_mid xa xb n hn11)
        have HBG : Hid (Big all) := Lib.hid (by rw [← hall]; exact big_append (big_append HBA.out (big_rep n)) HBB.out)
        have HLA : Hid (all.length = q) := Lib.hid (by rw [← hall, ← hq, ← HNA.out, ← HNB.out]; simp; omega)
        have hqb : q ≤ 500 := by omega
        have hnaq : na < q := by omega
        have hcq := own_cap HO6.out
        clear hown6 hgrow6 hat6 HO5 hall hq
        rcases ok_or all with hok | ⟨j, hj, hbad⟩
        · have HK := Lib.hid hok
          clear hok
          go_wp2_with fail
          refine (pack_any A6 q c6 all _ x6 (Lst.of_own HO6.out).and_lt (fun b h => h.2) HBG.out (by omega) hcq HK.out).mono ?_
          rintro e w7 ⟨AL7, m7, cl7, l7, rfl, ho7, hpk7, hb7⟩
          have hmq : m7 < q := by
            have h1 := hpk7.2.2.2 na (by rw [HLA.out]; exact hnaq) HZA.out
            rw [HLA.out, flat2_own_len ho7] at h1
            exact h1
          have HW7 := Lib.hid (HW6.out.trans (hb7.mono HW6.out.size))
          have x5 : decide (m7 < q) = true := by simpa using hmq
          clear ho7 hpk7 hb7
          go_wp2
          go_ret
          exact ⟨rfl, HW7.out⟩
        · have HK := Lib.hid hbad
          rw [HLA.out] at hj
          clear hbad
          go_wp2_with fail
          refine (pack_bad A6 q c6 all _ x6 (Lst.of_own HO6.out).and_lt HBG.out (by omega) j hj HK.out).mono ?_
          rintro e wx ⟨rfl, rfl⟩
          go_wp2
          go_ret
          exact ⟨rfl, HW6.out⟩
end Go.Proofs.Ytfoefncmfmfgeaa
