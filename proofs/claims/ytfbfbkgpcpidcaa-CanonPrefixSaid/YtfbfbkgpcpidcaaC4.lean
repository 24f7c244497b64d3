/- Sorted. -/
import Derived.Test.YtfbfbkgpcpidcaaC3
import Derived.OwnWalk
namespace Go.Proofs.Ytfbfbkgpcpidcaa
open Go.RowKit

theorem info_parts {P : Program} {e : TypeId} {x} (h : (P.info? e).map (fun i => (i.zero, i.size, i.bytes)) = some x) : ∃ i, P.info? e = some i ∧ i.zero = x.1 ∧ i.size = x.2.1 ∧ i.bytes = x.2.2 := by
  cases hi : P.info? e with
  | none => rw [hi] at h; cases h
  | some i => rw [hi] at h; injection h with h; subst h; exact ⟨i, rfl, rfl, rfl, rfl⟩
theorem info3 : (Try.prog.info? 3).map (fun i => (i.zero, i.size, i.bytes)) = some (some (.int .i64 0), 1, 8) := by kernel_rfl
theorem ownAt_other {w : World} {base g n cap : Nat} {e : TypeId} {k : IntKind} {ns : List Int} (h : OwnAt w base e k g n cap ns) {p : Addr} (hp : g ≠ p.block) (u : Value) : OwnAt (w.setCell p u) base e k g n cap ns :=
  ownsRow_setCell_other h (fun e => hp (Option.some.inj e)) _
def nextTo (ns : List Int) (j k : Nat) : Int := if 1 ≤ k ∧ k ≤ j then codesTo ns (k - 1) else 0
def nextAt (ns : List Int) (j k : Nat) : Int := if 1 ≤ k then codesTo ns (k - 1) + cnt (ns.take j) k else 0
set_option maxHeartbeats 1000000 in
theorem sorted_any (A : Option Addr) (n c : Nat) (ns : List Int) (S : Nat → Prop) (w : World) (hL : Lst w S 1 A n (ns.map (Value.int .i64))) (hs : ∀ b, S b → b < w.heap.size) (hb : Big ns) (hl : n ≤ 1000000) :
    Calls Try.prog 11 #[.slice A n c] w fun e w' => ∃ g, e = .returned (.slice (some ⟨g, 0, none⟩) (srt ns 15).length (srt ns 15).length) ∧ OwnAt w' w.heap.size 3 .i64 g (srt ns 15).length (srt ns 15).length (srtI ns) ∧ Below w.heap.size w w' := by
  have HT := Lib.hid (tally_any A n c ns S w hL hs hb hl)
  have hn : ns.length = n := by have := hL.len; simpa using this
  subst hn
  have HL := Lib.hid hL
  have HS := Lib.hid hs
  have HBG := Lib.hid hb
  clear hL hb hs
  obtain ⟨i0, hi, hz0, hz1, hz2⟩ := info_parts info3
  go_enter Try.func11, Try.ntmps11
  go_wp2_with fail
  refine HT.out.mono ?_
  rintro e w1 ⟨rfl, hb1⟩
  have HB1 := Lib.hid hb1
  have i35 := info35
  have hz := cellsF_size (cnt ns)
  clear hb1 HT
  have hr0 : ∀ cs : Array Value, (Whole (w1.alloc (.cells cs 35)) w1.heap.size 35 cs) := fun cs => Whole.new _ _ _ rfl
  have HR0 := Lib.hid hr0
  clear hr0
  go_wp2_with (first
    | refine wpList_store_row rfl 35 (.tmp 3) (.tmp 13) rfl w1.heap.size (cellsF (cnt ns)) rfl rfl 35 _ (HR0.out _) (by rw [cellsF_size]; exact info35) (by rw [cellsF_size]; rfl) (cellsF_one _) ?_
    | refine wpList_store_row rfl 35 (.tmp 3) (.tmp 14) rfl w1.heap.size (cellsF (cnt ns)) rfl rfl 35 _ (HR0.out _) (by rw [cellsF_size]; exact info35) (by rw [cellsF_size]; rfl) (cellsF_one _) ?_)
  have HGW : Hid (w.heap.size ≤ w1.heap.size) := Lib.hid HB1.out.size
  go_loopw [6, 7] (fun m i wr => ∃ (k : Nat) (mv : Int), k ≤ 15 ∧ i = .int .i64 ((k + 1 : Nat) : Int) ∧ m = .int .i64 mv ∧ Hid (codesTo ns k = mv) ∧ Hid (Arr wr w1.heap.size (cnt ns)) ∧ Hid (Arr wr (w1.heap.size + 1) (nextTo ns k)) ∧ Hid (Below w.heap.size w wr)) (fun _ i _ => 16 - (intOf i).toNat)
  case atStart =>
    refine ⟨0, 0, by omega, rfl, rfl, Lib.hid rfl, Lib.hid ?_, Lib.hid ?_, Lib.hid ?_⟩
    · exact Whole.alloc (setRow_heap _ _ _ _ 35 _ (HR0.out _)) _
    · refine Arr.congr (f := fun _ => 0) ?_ (fun k _ => by unfold nextTo; rw [if_neg (by omega)])
      unfold Arr
      rw [cellsF_zero]
      exact Whole.new _ 35 _ (by simp)
    · exact (below_setRow (HB1.out.alloc HB1.out.size _) HB1.out.size _).alloc (by have := HB1.out.size; simp; omega) _
  case round =>
    obtain ⟨k, mv, hk, rfl, rfl, HMV, HA, HX, HW⟩ := hrel
    clear HR0 HB1
    have hm1 := codesTo_bd ns k
    rw [HMV.out] at hm1
    have hk15 : (k : Int) ≤ 15 := by omega
    have hm2 : mv ≤ 15000000 := by
      have : (ns.length : Int) * k ≤ 1000000 * 15 := Int.mul_le_mul (by omega) hk15 (by omega) (by omega)
      omega
    obtain ⟨hm0, -⟩ := hm1
    clear hk15
    by_cases hlt : k < 15
    · have c1 := HA.out.cell (i := k + 1) (by omega)
      have f2 := HX.out.free (k + 1)
      have c2 := HX.out.cell (i := k + 1) (by omega)
      have hb1 := cnt_le ns (k + 1)
      obtain ⟨y, hy⟩ : ∃ y, cnt ns (k + 1) = y := ⟨_, rfl⟩
      rw [hy] at c1 hb1
      obtain ⟨z, hzz⟩ : ∃ z, nextTo ns k (k + 1) = z := ⟨_, rfl⟩
      rw [hzz] at c2
      have HY := Lib.hid hy
      clear hy hzz
      have ne1 : w1.heap.size ≠ w1.heap.size + 1 := by omega
      go_wp2
      go_round
      case rel =>
        refine ⟨k + 1, mv + y, by omega, by go_num, by go_num, Lib.hid ?_, Lib.hid ?_, Lib.hid ?_, Lib.hid ?_⟩
        · simp only [codesTo]; rw [HMV.out, HY.out]
        · exact Whole.other HA.out (by simp) _
        · refine (HX.out.put (k + 1) _).congr fun j hj => ?_
          unfold nextTo
          by_cases e : j = k + 1
          · subst e
            rw [if_pos rfl, if_pos (by omega), Nat.add_sub_cancel, HMV.out]
          · rw [if_neg e]
            by_cases e2 : 1 ≤ j ∧ j ≤ k
            · rw [if_pos e2, if_pos (by omega)]
            · rw [if_neg e2, if_neg (by omega)]
        · exact HW.out.setCell (by have := HGW.out; simp; omega) _
      case measure => simp [intOf]; omega
    · obtain rfl : k = 15 := by omega
      obtain ⟨N, hN⟩ : ∃ N, (srt ns 15).length = N := ⟨_, rfl⟩
      have hmN : mv = (N : Int) := by rw [← HMV.out, ← srt_len, hN]
      subst hmN
      have HN := Lib.hid hN
      clear hN
      obtain ⟨g3, hg3⟩ : ∃ g, wr.heap.size = g := ⟨_, rfl⟩
      have HG3 := Lib.hid hg3
      clear hg3
      go_wp2_with (at_make
                   refine wpList_make_full _ rfl _ _ 22 rfl w.heap.size 3 i0 (.int .i64 0) 1 Try.underlying22 hi hz0 hz1 .i64 .i64 (N : Nat) (N : Nat) N rfl rfl (by simp) (by simp) (by rw [hz2]; omega) (by unfold maxLen; omega) HW.out.size ?_
                   intro w2 hown hg
                   rw [toList_made_int, HG3.out] at hown
                   rw [HG3.out]
                   have HO := Lib.hid hown
                   have HB := Lib.hid (HW.out.grown hg HW.out.size (fun _ h => by cases h))
                   have HA2 := Lib.hid (Whole.grown HA.out hg (by simp))
                   have HX2 := Lib.hid (Whole.grown HX.out hg (by simp))
                   have HG4 : Hid (w1.heap.size + 1 < g3) := Lib.hid (by rw [← HG3.out]; exact Whole.lt HX.out)
                   clear hown hg HA HX HW)
      go_loopw [32] (fun i wr => ∃ j : Nat, j ≤ ns.length ∧ i = .int .i64 (j : Nat) ∧ Hid (Arr wr (w1.heap.size + 1) (nextAt ns j)) ∧ Hid (OwnAt wr w.heap.size 3 .i64 g3 N N (putTo (srt ns 15) j)) ∧ Hid (Below w.heap.size w wr)) (fun i _ => ns.length - (intOf i).toNat)
      case atStart =>
        refine ⟨0, Nat.zero_le _, rfl, Lib.hid ?_, Lib.hid ?_, HB⟩
        · refine Arr.congr (show Arr _ _ _ from HX2.out) fun k hk => ?_
          unfold nextTo nextAt
          by_cases e : 1 ≤ k
          · rw [if_pos e, if_pos ⟨e, by omega⟩]
            simp [cnt]
          · rw [if_neg e, if_neg (by omega)]
        · have := HO.out
          rw [putTo_zero, HN.out]
          exact this
      case round =>
        obtain ⟨j, hj, rfl, HX, HO, HW⟩ := hrel
        have HM2 := Lib.hid hm2
        clear HX2 HA2 hm0 hm2
        by_cases hlt : j < ns.length
        · obtain ⟨b, off, rfl, hbl, _, hc⟩ := (HL.out.below HW.out).int_at hlt
          obtain ⟨d1, d2⟩ := HBG.out.get j
          have HC := Lib.hid (fun k => cnt_take ns j k hlt)
          have HV : Hid (ns.getD j 0 = ns.getD j 0) := Lib.hid rfl
          obtain ⟨v, hv⟩ : ∃ v, ns.getD j 0 = v := ⟨_, rfl⟩
          rw [hv] at hc d1 d2
          have HV := Lib.hid hv
          clear hv
          have ne2 : w1.heap.size + 1 ≠ g3 := by have := HG4.out; omega
          have ne3 : g3 ≠ w1.heap.size + 1 := fun e => ne2 e.symm
          by_cases h0 : 1 ≤ v
          · have x1 : decide (1 ≤ v) = true := by simpa using h0
            by_cases h1 : v ≤ 15
            · have x2 : decide (v ≤ 15) = true := by simpa using h1
              obtain ⟨q, rfl⟩ := Int.eq_ofNat_of_zero_le (show 0 ≤ v by omega)
              have hq : q < 16 := by omega
              have hP := srt_at ns 15 (q - 1) j (by omega) hlt (by rw [HV.out]; omega)
              obtain ⟨P, hPe⟩ : ∃ P, (srt ns (q - 1)).length + ((List.range j).filter (isN ns (q - 1))).length = P := ⟨_, rfl⟩
              rw [hPe] at hP
              have hPn : nextAt ns j q = (P : Int) := by
                unfold nextAt
                rw [if_pos (by omega), ← srt_len, show cnt (ns.take j) q = cnt (ns.take j) (q - 1 + 1) from by rw [Nat.sub_add_cancel (by omega)], ← filt_cnt ns (q - 1) j (by omega), ← hPe]
                simp
              have hPl : P < N := by
                rcases Nat.lt_or_ge P (srt ns 15).length with h | h
                · rw [← HN.out]; exact h
                · rw [List.getElem?_eq_none h] at hP; cases hP
              have HP := Lib.hid hP
              have HPN := Lib.hid hPn
              have c1 := HX.out.cell hq
              have f1 := HX.out.free q
              rw [hPn] at c1
              have f2 := HO.out.free P
              have c2 := HO.out.cell hPl
              obtain ⟨u, hu⟩ : ∃ u, (putTo (srt ns 15) j).getD P 0 = u := ⟨_, rfl⟩
              rw [hu] at c2
              clear hu hPe hP hPn HC
              go_wp2
              go_round
              case rel =>
                refine ⟨j + 1, by omega, by go_num, Lib.hid ?_, Lib.hid ?_, Lib.hid ?_⟩
                · refine Arr.congr (Arr.put (show Arr (wr.setCell ⟨g3, P, none⟩ (.int .i64 (j : Int))) (w1.heap.size + 1) (nextAt ns j) from Whole.other HX.out (fun e => ne2 e) _) q _) fun k hk => ?_
                  unfold nextAt
                  by_cases e : k = q
                  · subst e
                    rw [if_pos rfl, if_pos (by omega), cnt_take ns j _ hlt, HV.out, if_pos rfl]
                    have := HPN.out
                    unfold nextAt at this
                    rw [if_pos (by omega)] at this
                    have := HM2.out
                    unfold wrap64
                    omega
                  · rw [if_neg e]
                    by_cases e2 : 1 ≤ k
                    · rw [if_pos e2, if_pos e2, cnt_take ns j _ hlt, HV.out, if_neg (by omega)]
                      omega
                    · rw [if_neg e2, if_neg e2]
                · have := HO.out.put P (j : Int)
                  rw [putTo_set _ (srt_nodup ns 15) j P HP.out] at this
                  exact ownAt_other this (p := ⟨w1.heap.size + 1, q, none⟩) ne3 _
                · exact (HW.out.setCell (p := ⟨g3, P, none⟩) (by have := HGW.out; have := HG4.out; simp; omega) _).setCell (p := ⟨w1.heap.size + 1, q, none⟩) (by have := HGW.out; simp; omega) _
              case measure => simp [intOf]; omega
            · have x2 : decide (v ≤ 15) = false := by simpa using h1
              have hno : j ∉ srt ns 15 := fun hm => by have := srt_mem ns 15 j hm; rw [HV.out] at this; omega
              have HNO := Lib.hid hno
              have hvv : ∀ k : Nat, k < 16 → 1 ≤ k → ¬ v = (k : Int) := fun k _ _ e => by omega
              have HVV := Lib.hid hvv
              clear hno hvv
              go_wp2
              go_round
              case rel =>
                refine ⟨j + 1, by omega, by go_num, Lib.hid ?_, Lib.hid ?_, HW⟩
                · refine Arr.congr HX.out fun k hk => ?_
                  unfold nextAt
                  by_cases e2 : 1 ≤ k
                  · rw [if_pos e2, if_pos e2, cnt_take ns j _ hlt, HV.out, if_neg (HVV.out k hk e2)]
                    omega
                  · rw [if_neg e2, if_neg e2]
                · rw [← putTo_skip _ _ HNO.out]
                  exact HO.out
              case measure => simp [intOf]; omega
          · have x1 : decide (1 ≤ v) = false := by simpa using h0
            have hno : j ∉ srt ns 15 := fun hm => by have := srt_mem ns 15 j hm; rw [HV.out] at this; omega
            have HNO := Lib.hid hno
            have hvv : ∀ k : Nat, k < 16 → 1 ≤ k → ¬ v = (k : Int) := fun k _ _ e => by omega
            have HVV := Lib.hid hvv
            clear hno hvv
            go_wp2
            go_round
            case rel =>
              refine ⟨j + 1, by omega, by go_num, Lib.hid ?_, Lib.hid ?_, HW⟩
              · refine Arr.congr HX.out fun k hk => ?_
                unfold nextAt
                by_cases e2 : 1 ≤ k
                · rw [if_pos e2, if_pos e2, cnt_take ns j _ hlt, HV.out, if_neg (HVV.out k hk e2)]
                  omega
                · rw [if_neg e2, if_neg e2]
              · rw [← putTo_skip _ _ HNO.out]
                exact HO.out
            case measure => simp [intOf]; omega
        · have hk' : j = ns.length := by omega
          subst hk'
          have HF : Hid (putTo (srt ns 15) ns.length = srtI ns) := Lib.hid (putTo_all _ _ fun i hi => (srt_mem ns 15 i hi).1)
          go_wp2
          go_ret
          rw [HN.out]
          exact ⟨g3, rfl, HF.out ▸ HO.out, HW.out⟩

end Go.Proofs.Ytfbfbkgpcpidcaa
