/- The window: Back, Last; the page's Len, Copy. -/
import Derived.Test.YtphphejabgjnjaaV4
namespace Go.Proofs.Ytphphejabgjnjaa
open Go.RowKit

theorem rlen_any (A : Option Addr) (n c : Nat) (w : World) (hn : n ≤ 1000000000) : Calls Try.prog 10 #[.slice A n c] w fun e w' => e = .returned (.int .i64 (min n 32768 : Nat)) ∧ w = w' := by
  obtain ⟨m, hm⟩ : ∃ m, min n 32768 = m := ⟨_, rfl⟩
  have hmin : (if (32768 : Int) < (n : Int) then (32768 : Int) else (n : Int)) = (m : Int) := by rw [← hm]; split <;> omega
  have hmin2 : (if 32768 < n then (32768 : Int) else (n : Int)) = (m : Int) := by rw [← hm]; split <;> omega
  rw [hm]
  clear hm
  go_enter Try.func10, Try.ntmps10
  go_wp2
  go_ret
  exact ⟨rfl, rfl⟩
/-- Are there so many? -/
def inD (all : List UInt8) (d : Int) : Bool := decide (1 ≤ d) && decide (d ≤ (wlen all : Nat))
set_option maxRecDepth 10000000 in
theorem back_no (g : Nat) (d : Int) (all : List UInt8) (w : World) (h : Wnd w g all) (hl : all.length ≤ 1000000000) (hd : inD all d = false) :
    Calls Try.prog 15 #[.pointer (some ⟨g, 0, none⟩), .int .i64 d] w fun e w' => e = .returned (.tuple #[.int .u8 0, .bool false]) ∧ w = w' := by
  have HLN := Lib.hid (len_any g all w h hl)
  obtain ⟨m0, hm0⟩ : ∃ m0, wlen all = m0 := ⟨_, rfl⟩
  unfold inD at hd
  rw [hm0] at HLN hd
  by_cases h1 : d < 1
  · have x1 : decide (d < 1) = true := by simpa using h1
    clear hd h hm0 h1
    go_enter Try.func15, Try.ntmps15
    go_wp2
    go_ret2
    exact ⟨rfl, rfl⟩
  · have x1 : decide (d < 1) = false := by simpa using h1
    have x2 : decide ((m0 : Int) < d) = true := by simp at hd ⊢; omega
    clear hd h hm0 h1
    go_enter Try.func15, Try.ntmps15
    go_wp2_with fail
    refine HLN.out.mono ?_
    rintro e wx ⟨rfl, rfl⟩
    go_wp2
    go_ret2
    exact ⟨rfl, rfl⟩
set_option maxRecDepth 10000000 in
theorem back_yes (g d : Nat) (all : List UInt8) (w : World) (h : Wnd w g all) (hl : all.length ≤ 1000000000) (h1 : 1 ≤ d) (h2 : d ≤ wlen all) :
    Calls Try.prog 15 #[.pointer (some ⟨g, 0, none⟩), .int .i64 (d : Nat)] w fun e w' => e = .returned (.tuple #[.int .u8 ((all.getD (all.length - d) 0).toNat : Int), .bool true]) ∧ ∃ k, w' = w.drewN k := by
  have HLN := Lib.hid (len_any g all w h hl)
  have hda : d ≤ all.length := by unfold wlen at h2; omega
  have hd2 : d ≤ 32768 := by unfold wlen at h2; omega
  have hback := h.back h1 hda hd2
  obtain ⟨c1, f1, -⟩ := h.at_
  have f2 := f1 32768
  obtain ⟨m0, hm0⟩ : ∃ m0, wlen all = m0 := ⟨_, rfl⟩
  rw [hm0] at HLN h2
  obtain ⟨m, hm⟩ : ∃ m, all.length = m := ⟨_, rfl⟩
  rw [hm] at hback c1 hda hl ⊢
  obtain ⟨x, hx⟩ : ∃ x, all.getD (m - d) 0 = x := ⟨_, rfl⟩
  rw [hx] at hback ⊢
  obtain ⟨s, hs⟩ : ∃ s, (m - d) % 32768 = s := ⟨_, rfl⟩
  rw [hs] at hback
  have fs := f1 s
  have x1 : decide ((d : Int) < 1) = false := by simp; omega
  have x1' : decide (d < 1) = false := by simp; omega
  have x2 : decide (m0 < d) = false := by simp; omega
  have e0 : IntKind.i64.wrap ((m : Int) - (d : Int)) = (m : Int) - (d : Int) := IntWalk.i64_in _ (by omega)
  have e2 : ((m : Int) - (d : Int)).tmod 32768 = (s : Int) := by rw [Int.tmod_eq_emod_of_nonneg (by omega)]; omega
  have e2' : ((m : Int) - (d : Int)) % 32768 = (s : Int) := by omega
  have hs2 : (s : Int) < 32768 := by omega
  clear h f1 hm0 hm hx hs
  go_enter Try.func15, Try.ntmps15
  go_wp2_with fail
  refine HLN.out.mono ?_
  rintro e wx ⟨rfl, rfl⟩
  go_wp2
  go_quiet (fail)
  go_wp2
  go_ret2
  exact ⟨rfl, nq, rfl⟩
theorem copy_arg (g : Nat) (d n : Int) (w : World) (hn : n < 0 ∨ 1048576 < n) : Calls Try.prog 13 #[.pointer (some ⟨g, 0, none⟩), .int .i64 d, .int .i64 n] w fun e w' => e = .returned (.tuple #[.slice none 0 0, .int .i64 1]) ∧ w = w' := by
  by_cases h : n < 0
  · have x1 : decide (n < 0) = true := by simpa using h
    clear hn h
    go_enter Try.func13, Try.ntmps13
    go_wp2
    go_ret2
    exact ⟨rfl, rfl⟩
  · have x1 : decide (n < 0) = false := by simpa using h
    have x2 : decide (1048576 < n) = true := by simp; omega
    clear hn h
    go_enter Try.func13, Try.ntmps13
    go_wp2
    go_ret2
    exact ⟨rfl, rfl⟩
set_option maxRecDepth 10000000 in
theorem copy_dist (g : Nat) (d n : Int) (all : List UInt8) (w : World) (h : Wnd w g all) (hl : all.length ≤ 1000000000) (hn : 0 ≤ n ∧ n ≤ 1048576) (hd : inD all d = false) :
    Calls Try.prog 13 #[.pointer (some ⟨g, 0, none⟩), .int .i64 d, .int .i64 n] w fun e w' => e = .returned (.tuple #[.slice none 0 0, .int .i64 27]) ∧ w = w' := by
  have HLN := Lib.hid (len_any g all w h hl)
  obtain ⟨m0, hm0⟩ : ∃ m0, wlen all = m0 := ⟨_, rfl⟩
  unfold inD at hd
  rw [hm0] at HLN hd
  have y1 : decide (n < 0) = false := by simp; omega
  have y2 : decide (1048576 < n) = false := by simp; omega
  by_cases h1 : d < 1
  · have x1 : decide (d < 1) = true := by simpa using h1
    clear hd h hm0 h1 hn
    go_enter Try.func13, Try.ntmps13
    go_wp2
    go_ret2
    exact ⟨rfl, rfl⟩
  · have x1 : decide (d < 1) = false := by simpa using h1
    have x2 : decide ((m0 : Int) < d) = true := by simp at hd ⊢; omega
    clear hd h hm0 h1 hn
    go_enter Try.func13, Try.ntmps13
    go_wp2_with fail
    refine HLN.out.mono ?_
    rintro e wx ⟨rfl, rfl⟩
    go_wp2
    go_ret2
    exact ⟨rfl, rfl⟩
def lastTo (all : List UInt8) (k i : Nat) : List UInt8 := ((all.drop (all.length - k)).take i) ++ List.replicate (k - i) 0
theorem lastTo_set (all : List UInt8) (k i : Nat) (hk : k ≤ all.length) (h : i < k) : (lastTo all k i).set i (all.getD (all.length - k + i) 0) = lastTo all k (i + 1) := by
  unfold lastTo
  have hlen : (all.drop (all.length - k)).length = k := by simp; omega
  have hti : ((all.drop (all.length - k)).take i).length = i := by rw [List.length_take, hlen]; omega
  rw [List.set_append_right _ _ (by rw [hti]; exact Nat.le_refl _), hti, Nat.sub_self]
  obtain ⟨m, hm⟩ : ∃ m, k - i = m + 1 := ⟨k - i - 1, by omega⟩
  rw [hm, show k - (i + 1) = m by omega, List.replicate_succ, List.set_cons_zero, take_snoc _ i (by rw [hlen]; exact h), List.append_assoc]
  congr 2
  rw [List.getD_eq_getElem?_getD, List.getD_eq_getElem?_getD, List.getElem?_drop]
def LastP (g : Nat) (all : List UInt8) (k : Nat) (w : World) (e : Ending) (w' : World) : Prop :=
  ∃ q, e = .returned (.slice (some ⟨q, 0, none⟩) k k) ∧ OwnB w' w.heap.size q k k (all.drop (all.length - k)) ∧ Below w.heap.size w w'
def lastK (all : List UInt8) (n : Int) : Nat := (min (max n 0) (wlen all : Nat)).toNat
set_option maxRecDepth 10000000 in
set_option maxHeartbeats 2000000 in
theorem last_any (g : Nat) (n : Int) (all : List UInt8) (w : World) (h : Wnd w g all) (hl : all.length ≤ 1000000000) :
    Calls Try.prog 16 #[.pointer (some ⟨g, 0, none⟩), .int .i64 n] w (LastP g all (lastK all n) w) := by
  obtain ⟨i0, hi, hz0, hz1, hz2⟩ := info_parts info5
  simp only at hz0 hz1 hz2
  have HLN := Lib.hid (len_any g all w h hl)
  have HW := Lib.hid h
  have hgl := h.lt
  obtain ⟨k, hk⟩ : ∃ k, lastK all n = k := ⟨_, rfl⟩
  obtain ⟨m0, hm0⟩ : ∃ m0, wlen all = m0 := ⟨_, rfl⟩
  have hkm : k ≤ m0 := by rw [← hk, ← hm0]; unfold lastK; omega
  have hma : m0 ≤ all.length := by rw [← hm0]; unfold wlen; omega
  have hm3 : m0 ≤ 32768 := by rw [← hm0]; unfold wlen; omega
  obtain ⟨m, hm⟩ : ∃ m : Nat, max n 0 = m := ⟨(max n 0).toNat, by omega⟩
  have y1 : (if n < 0 then (0 : Int) else n) = m := by rw [← hm]; split <;> omega
  have y2 : (if (m0 : Int) < (m : Int) then (m0 : Int) else (m : Int)) = k := by rw [← hk]; unfold lastK; rw [hm, hm0]; split <;> omega
  have y3 : (if m0 < m then (m0 : Int) else (m : Int)) = k := by rw [← hk]; unfold lastK; rw [hm, hm0]; split <;> omega
  rw [hm0] at HLN
  rw [hk]
  clear h hk hm0 hm
  go_enter Try.func16, Try.ntmps16
  go_wp2_with fail
  refine HLN.out.mono ?_
  rintro e wx ⟨rfl, rfl⟩
  go_wp2_with (at_make
               refine wpList_make_full _ rfl _ _ 27 rfl w.heap.size 5 i0 (.int .u8 0) 1 Try.underlying27 hi hz0 hz1 .i64 .i64 (k : Nat) (k : Nat) k rfl rfl (by simp) (by simp) (by rw [hz2]; omega) (by unfold maxLen; omega) (Nat.le_refl _) ?_
               intro w1 hown hg
               rw [toList_made_int, zeros_bv] at hown
               have HO := Lib.hid (show OwnB w1 w.heap.size w.heap.size k k (List.replicate k 0) from hown)
               have HB := Lib.hid ((Below.refl w.heap.size w).grown hg (Nat.le_refl _) (fun _ h => by cases h))
               clear hown hg)
  go_loopw [16] (fun i wr => ∃ j : Nat, j ≤ k ∧ i = .int .i64 (j : Nat) ∧ Hid (OwnB wr w.heap.size w.heap.size k k (lastTo all k j)) ∧ Hid (Below w.heap.size w wr)) (fun i _ => k - (intOf i).toNat)
  case atStart => exact ⟨0, Nat.zero_le _, rfl, Lib.hid (by unfold lastTo; simpa using HO.out), HB⟩
  case round =>
    obtain ⟨j, hj, rfl, HO, HB⟩ := hrel
    by_cases hlt : j < k
    · have hV := HW.out.below HB.out
      have HS := Lib.hid (lastTo_set all k j (by omega) hlt)
      have hback := hV.back (d := k - j) (by omega) (by omega) (by omega)
      obtain ⟨c1, f1, -⟩ := hV.at_
      have f2 := f1 32768
      obtain ⟨L, hL⟩ : ∃ L, all.length = L := ⟨_, rfl⟩
      rw [hL] at hback c1 hma hl HS
      rw [show L - (k - j) = L - k + j by omega] at hback
      obtain ⟨x, hx⟩ : ∃ x, all.getD (L - k + j) 0 = x := ⟨_, rfl⟩
      rw [hx] at hback HS
      obtain ⟨s, hs⟩ : ∃ s, (L - k + j) % 32768 = s := ⟨_, rfl⟩
      rw [hs] at hback
      have fs := f1 s
      have e0 : IntKind.i64.wrap ((L : Int) - (k : Int)) = (L : Int) - (k : Int) := IntWalk.i64_in _ (by omega)
      have e1 : IntKind.i64.wrap ((L : Int) - (k : Int) + (j : Int)) = (L : Int) - (k : Int) + (j : Int) := IntWalk.i64_in _ (by omega)
      have e2 : ((L : Int) - (k : Int) + (j : Int)).tmod 32768 = (s : Int) := by rw [Int.tmod_eq_emod_of_nonneg (by omega)]; omega
      have e2' : ((L : Int) - (k : Int) + (j : Int)) % 32768 = (s : Int) := by omega
      have hs2 : (s : Int) < 32768 := by omega
      have f3 := HO.out.free j
      obtain ⟨u2, c3⟩ := HO.out.cell hlt
      clear f1 hL hx hs hV
      go_wp2
      refine wp_region_tail 17 (by kernel_rfl) (by kernel_rfl) ?_
      simp only [List.take_succ_cons, List.take_zero, List.drop_succ_cons, List.drop_zero]
      repeat still_step
      refine wpStill_nil ?_
      go_wp2
      go_round
      case rel =>
        refine ⟨j + 1, by omega, by go_num, Lib.hid ?_, Lib.hid ?_⟩
        · have := (HO.out.drewN 1).put j x
          rw [HS.out] at this
          exact this
        · exact (HB.out.drewN' 1).setCell (p := ⟨w.heap.size, j, none⟩) (Nat.le_refl _) _
      case measure => simp [intOf]; omega
    · obtain rfl : j = k := by omega
      go_wp2
      go_ret
      refine ⟨w.heap.size, rfl, ?_, HB.out⟩
      have := HO.out
      unfold lastTo at this
      rw [Nat.sub_self, List.replicate_zero, List.append_nil, List.take_of_length_le (by simp; omega)] at this
      exact this
end Go.Proofs.Ytphphejabgjnjaa
