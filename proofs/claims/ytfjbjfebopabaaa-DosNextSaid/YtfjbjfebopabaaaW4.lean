import Derived.Test.YtfjbjfebopabaaaW3
namespace Go.Proofs.Ytfjbjfebopabaaa
open Go.RowKit

theorem bcell {W w1 : World} (hb : Below W.heap.size W w1) : (∀ b o, b < W.heap.size → w1.cell? ⟨b, o, none⟩ = W.cell? ⟨b, o, none⟩) ∧ (∀ b o, b < W.heap.size → w1.frozen? ⟨b, o, none⟩ = W.frozen? ⟨b, o, none⟩) :=
  ⟨fun b o h => hb.cell (p := ⟨b, o, none⟩) h, fun b o h => hb.frozen (p := ⟨b, o, none⟩) h⟩
theorem fields_below (y mo d h mi s : Int) (w : World) :
    Calls Try.prog 22 #[.agg #[.int .i64 y, .int .i64 mo, .int .i64 d, .int .i64 h, .int .i64 mi, .int .i64 s]] w fun e w' => ∃ b, e = .returned (.slice (some ⟨b, 0, none⟩) 6 6) ∧ w'.heap[b]? = some (.cells #[.int .i64 y, .int .i64 mo, .int .i64 d, .int .i64 h, .int .i64 mi, .int .i64 s] 3 (0, 0)) ∧ b < w'.heap.size ∧ Below w.heap.size w w' :=
  (fields_any y mo d h mi s w).mono fun e w' ⟨o, he, hw⟩ => ⟨_, he, by rw [hw]; exact heap_new _ _ _ (by simp), by rw [hw]; simp, by rw [hw]; exact ((Below.refl _ _).alloc (Nat.le_refl _) _).alloc (by simp) _⟩
theorem zget (xs ys : List Int) (j : Nat) (hx : j < xs.length) (hy : j < ys.length) : (List.zipWith cmpI xs ys).getD j 0 = cmpI (xs.getD j 0) (ys.getD j 0) := by
  have h1 : j < (List.zipWith cmpI xs ys).length := by simp; omega
  rw [List.getD_eq_getElem?_getD, List.getD_eq_getElem?_getD, List.getD_eq_getElem?_getD, List.getElem?_eq_getElem h1, List.getElem?_eq_getElem hx, List.getElem?_eq_getElem hy]
  simp
theorem cmpT_at (xs ys : List Int) (k : Nat) (h : ∀ j, j < k → xs.getD j 0 = ys.getD j 0) (hx : k < xs.length) (hy : k < ys.length) (hne : xs.getD k 0 ≠ ys.getD k 0) : cmpT xs ys = cmpI (xs.getD k 0) (ys.getD k 0) := by
  unfold cmpT
  rw [orL_at _ k (by simp; omega) (fun j hj => by rw [zget xs ys j (by omega) (by omega), h j hj]; simp [cmpI]) (by rw [zget xs ys k hx hy]; unfold cmpI; (repeat' split) <;> omega), zget xs ys k hx hy]
theorem cmpT_end (xs ys : List Int) (h : ∀ j, j < xs.length → xs.getD j 0 = ys.getD j 0) (hl : xs.length = ys.length) : cmpT xs ys = 0 := by
  unfold cmpT
  rw [orL_zero _ xs.length (fun j hj => by rw [zget xs ys j (by omega) (by omega), h j hj]; simp [cmpI]), List.drop_eq_nil_of_le (by simp; omega)]
  rfl
set_option maxHeartbeats 1000000 in
theorem rcompare_any (y mo d h mi s y' mo' d' h' mi' s' : Int) (w : World) :
    Calls Try.prog 16 #[tm y mo d h mi s, tm y' mo' d' h' mi' s'] w fun e w' => e = .returned (.int .i64 (cmpT [y, mo, d, h, mi, s] [y', mo', d', h', mi', s'])) ∧ Below w.heap.size w w' := by
  go_enter Try.func16, Try.ntmps16
  go_wp2
  go_region_held3 (fun w' => w.heap.size + 1 < w'.heap.size ∧ w'.cell? ⟨w.heap.size, 0, none⟩ = some (.int .i64 y) ∧ w'.cell? ⟨w.heap.size, 1, none⟩ = some (.int .i64 mo) ∧ w'.cell? ⟨w.heap.size, 2, none⟩ = some (.int .i64 d) ∧ w'.cell? ⟨w.heap.size, 3, none⟩ = some (.int .i64 h) ∧ w'.cell? ⟨w.heap.size, 4, none⟩ = some (.int .i64 mi) ∧ w'.cell? ⟨w.heap.size, 5, none⟩ = some (.int .i64 s) ∧
    w'.cell? ⟨w.heap.size + 1, 0, none⟩ = some (.int .i64 y') ∧ w'.cell? ⟨w.heap.size + 1, 1, none⟩ = some (.int .i64 mo') ∧ w'.cell? ⟨w.heap.size + 1, 2, none⟩ = some (.int .i64 d') ∧ w'.cell? ⟨w.heap.size + 1, 3, none⟩ = some (.int .i64 h') ∧ w'.cell? ⟨w.heap.size + 1, 4, none⟩ = some (.int .i64 mi') ∧ w'.cell? ⟨w.heap.size + 1, 5, none⟩ = some (.int .i64 s'))
    (first | (refine ⟨by first | (simp; done) | omega | (simp; omega), ?_⟩; go_keep) | go_keep)
    (first
      | (go_at_call_of 22 (Value.agg #[.int .i64 y, .int .i64 mo, .int .i64 d, .int .i64 h, .int .i64 mi, .int .i64 s]); refine (fields_below _ _ _ _ _ _ _).mono ?_; rintro e w1 ⟨b1, rfl, hb1, hblt1, hbw1⟩; have hsz1 := hbw1.size; (try simp at hsz1); have k0 := fun o => (bcell hbw1).1 w.heap.size o (by first | omega | (simp; omega)); have k1 := fun o => (bcell hbw1).1 (w.heap.size + 1) o (by first | omega | (simp; omega) | simp); have H1 := Lib.hid hbw1; clear hbw1)
      | (go_at_call 22; refine (fields_below _ _ _ _ _ _ _).mono ?_; rintro e w2 ⟨b2, rfl, hb2, hblt2, hbw2⟩; have hsz2 := hbw2.size; have k2 := fun o => (bcell hbw2).1 w.heap.size o (by omega); have k3 := fun o => (bcell hbw2).1 (w.heap.size + 1) o (by omega); have hb1 := (hbw2.block b1 hblt1).trans hb1; have H2 := Lib.hid hbw2; clear hbw2))
  have c1 := six_cells b1 _ _ _ _ _ _ _ hb1
  have c2 := six_cells b2 _ _ _ _ _ _ _ hb2
  clear k0 k1 k2 k3 hb1 hb2
  obtain ⟨xs, hxs⟩ : ∃ xs, xs = [y, mo, d, h, mi, s] := ⟨_, rfl⟩
  obtain ⟨ys, hys⟩ : ∃ ys, ys = [y', mo', d', h', mi', s'] := ⟨_, rfl⟩
  rw [← hxs] at c1
  rw [← hys] at c2
  have hxl : xs.length = 6 := by rw [hxs]; rfl
  have hyl : ys.length = 6 := by rw [hys]; rfl
  have C1 := Lib.hid c1
  have C2 := Lib.hid c2
  have HX := Lib.hid hxs
  have HY := Lib.hid hys
  have HXL := Lib.hid hxl
  have HYL := Lib.hid hyl
  have HB : Below w.heap.size w w2 := (((Below.refl _ _).alloc (Nat.le_refl _) _).alloc (by simp) _).drew.trans ((H1.out.mono (by simp; omega)).trans (H2.out.mono (by omega)))
  have HB' := Lib.hid HB
  clear c1 c2 hxs hys hxl hyl HB H1 H2
  go_wp2
  go_loopw [7] (fun i wr => ∃ k n : Nat, k ≤ 6 ∧ i = .int .i64 k ∧ wr = w2.drewN n ∧ (∀ j, j < k → xs.getD j 0 = ys.getD j 0)) (fun i _ => 6 - (intOf i).toNat)
  case atStart => exact ⟨0, 0, by omega, rfl, rfl, fun j hj => absurd hj (by omega)⟩
  case round =>
    obtain ⟨k, n, hk, rfl, rfl, hz⟩ := hrel
    have HZ := Lib.hid hz
    clear hz
    by_cases hlt : k < 6
    · have e1 := C1.out k hlt
      have e2 := C2.out k hlt
      have hk0 : (0 : Int) ≤ (k : Int) := by omega
      have hk6 : (k : Int) < 6 := by omega
      by_cases hne : xs.getD k 0 = ys.getD k 0
      · rw [← hne] at e2
        have HNE := Lib.hid hne
        clear hne
        generalize xs.getD k 0 = v at e1 e2
        go_wp2
        go_quiet (fail)
        go_wp2
        go_quiet (fail)
        go_wp2
        go_roundw
        case rel =>
          refine ⟨k + 1, _, by omega, by go_num, rfl, fun j hj => ?_⟩
          by_cases hjk : j < k
          · exact HZ.out j hjk
          · have : j = k := by omega
            rw [this]
            exact HNE.out
        case measure => simp [intOf]; omega
      · have hfin := cmpT_at xs ys k HZ.out (by rw [HXL.out]; exact hlt) (by rw [HYL.out]; exact hlt) hne
        rw [HX.out, HY.out] at hfin
        rw [HX.out] at e1 hne
        rw [HY.out] at e2 hne
        generalize [y, mo, d, h, mi, s].getD k 0 = v1 at e1 hne hfin
        generalize [y', mo', d', h', mi', s'].getD k 0 = v2 at e2 hne hfin
        have HF := Lib.hid hfin
        clear hfin
        by_cases hv : v1 < v2
        · clear hne
          go_wp2
          go_quiet (fail)
          go_wp2
          go_ret
          exact ⟨ret_int (by rw [HF.out]; simp [cmpI, hv]), (HB'.out.drewN' _).drewN' _⟩
        · have hv2 : v2 < v1 := by omega
          clear hne
          go_wp2
          go_quiet (fail)
          go_wp2
          go_quiet (fail)
          go_wp2
          go_ret
          exact ⟨ret_int (by rw [HF.out]; simp [cmpI, hv, hv2]), ((HB'.out.drewN' _).drewN' _).drewN' _⟩
    · have hk6 : k = 6 := by omega
      subst hk6
      go_wp2
      go_ret
      refine ⟨ret_int ?_, HB'.out.drewN' _⟩
      have := cmpT_end xs ys (by rw [HXL.out]; exact HZ.out) (by rw [HXL.out, HYL.out])
      rw [HX.out, HY.out] at this
      exact this.symm
end Go.Proofs.Ytfjbjfebopabaaa
