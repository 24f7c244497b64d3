/- The window: Copy. -/
import Derived.Test.YtphphejabgjnjaaV2
namespace Go.Proofs.Ytphphejabgjnjaa
open Go.RowKit

/-- The byte at a distance, again and again. -/
def cpy (all : List UInt8) (d : Nat) : Nat → List UInt8
  | 0 => all
  | n + 1 => cpy all d n ++ [(cpy all d n).getD (all.length + n - d) 0]
theorem cpy_len (all : List UInt8) (d n : Nat) : (cpy all d n).length = all.length + n := by
  induction n with
  | zero => rfl
  | succ n ih => simp only [cpy, List.length_append, ih]; rfl
def cpt (all : List UInt8) (d n : Nat) : List UInt8 := (cpy all d n).drop all.length
theorem cpt_len (all : List UInt8) (d n : Nat) : (cpt all d n).length = n := by
  unfold cpt
  rw [List.length_drop, cpy_len]
  omega
theorem cpy_split (all : List UInt8) (d n : Nat) : cpy all d n = all ++ cpt all d n := by
  unfold cpt
  have : (cpy all d n).take all.length = all := by
    induction n with
    | zero => simp [cpy]
    | succ n ih =>
      simp only [cpy]
      rw [List.take_append_of_le_length (by rw [cpy_len]; omega), ih]
  conv => lhs; rw [← List.take_append_drop all.length (cpy all d n)]
  rw [this]
theorem cpt_succ (all : List UInt8) (d n : Nat) : cpt all d (n + 1) = cpt all d n ++ [(cpy all d n).getD (all.length + n - d) 0] := by
  unfold cpt
  simp only [cpy]
  rw [List.drop_append_of_le_length (by rw [cpy_len]; omega)]
/-- The bytes that are told, as far as they have been put. -/
def outTo (all : List UInt8) (d n i : Nat) : List UInt8 := cpt all d i ++ List.replicate (n - i) 0
theorem outTo_len (all : List UInt8) (d n i : Nat) (h : i ≤ n) : (outTo all d n i).length = n := by
  unfold outTo
  rw [List.length_append, cpt_len, List.length_replicate]
  omega
theorem outTo_set (all : List UInt8) (d n i : Nat) (h : i < n) : (outTo all d n i).set i ((cpy all d i).getD (all.length + i - d) 0) = outTo all d n (i + 1) := by
  unfold outTo
  rw [cpt_succ, List.set_append_right _ _ (by rw [cpt_len]; exact Nat.le_refl _), cpt_len, Nat.sub_self]
  obtain ⟨m, hm⟩ : ∃ m, n - i = m + 1 := ⟨n - i - 1, by omega⟩
  rw [hm, show n - (i + 1) = m by omega, List.replicate_succ, List.set_cons_zero, List.append_assoc]
  rfl
theorem outTo_all (all : List UInt8) (d n : Nat) : outTo all d n n = cpt all d n := by unfold outTo; simp
theorem map_set_b (l : List UInt8) (i : Nat) (v : UInt8) : (l.map bv).set i (bv v) = (l.set i v).map bv := by rw [List.map_set]
/-- A row of bytes of the call's own, at the head of block q. -/
def OwnB (w : World) (base q n cap : Nat) (bs : List UInt8) : Prop := w.ownsRow base 5 1 (.slice (some ⟨q, 0, none⟩) n cap) n (bs.map bv)
theorem OwnB.put {w : World} {base q n cap : Nat} {bs : List UInt8} (h : OwnB w base q n cap bs) (j : Nat) (u : UInt8) : OwnB (w.setCell ⟨q, j, none⟩ (bv u)) base q n cap (bs.set j u) := by
  have := World.ownsRow.stored h j (bv u)
  rw [map_set_b] at this
  exact this.1
theorem OwnB.lt {w : World} {base q n cap : Nat} {bs : List UInt8} (h : OwnB w base q n cap bs) : base ≤ q ∧ q < w.heap.size := World.ownsRow.lt h q rfl
theorem OwnB.free {w : World} {base q n cap : Nat} {bs : List UInt8} (h : OwnB w base q n cap bs) (j : Nat) : w.frozen? ⟨q, j, none⟩ = false := World.ownsRow.frozenAt h j
theorem OwnB.cell {w : World} {base q n cap : Nat} {bs : List UInt8} (h : OwnB w base q n cap bs) {j : Nat} (hj : j < n) : ∃ u, w.cell? ⟨q, j, none⟩ = some u := by
  have hl : bs.length = n := by have := h.1; simpa using this
  exact ⟨_, (World.ownsRow.cellAt h j (by omega)).trans (by rw [List.getElem?_map, List.getElem?_eq_getElem (by omega)]; rfl)⟩
theorem OwnB.other {w : World} {base q n cap : Nat} {bs : List UInt8} (h : OwnB w base q n cap bs) {p : Addr} (hp : q ≠ p.block) (u : Value) : OwnB (w.setCell p u) base q n cap bs :=
  ownsRow_setCell_other h (fun e => hp (Option.some.inj e)) _
theorem OwnB.drewN {w : World} {base q n cap : Nat} {bs : List UInt8} (h : OwnB w base q n cap bs) (k : Nat) : OwnB (w.drewN k) base q n cap bs := h
theorem alone_new {w w' : World} {g : Nat} (h : Alone w w' g) {p : Addr} (hp : w.heap.size ≤ p.block) (u : Value) : Alone w (w'.setCell p u) g :=
  ⟨h.1, h.2.1, h.2.2.1, by simpa using h.size, fun k hk hg => (Below.heap_setCell w' p u k (by omega)).trans (h.2.2.2.2 k hk hg)⟩
def CopyP (g : Nat) (all : List UInt8) (d n : Nat) (w : World) (e : Ending) (w' : World) : Prop :=
  ∃ q, e = .returned (.tuple #[.slice (some ⟨q, 0, none⟩) n n, .int .i64 0]) ∧ OwnB w' w.heap.size q n n (cpt all d n) ∧ Wnd w' g (cpy all d n) ∧ Alone w w' g
set_option maxRecDepth 10000000 in
set_option maxHeartbeats 2000000 in
theorem copy_any (g d n : Nat) (all : List UInt8) (w : World) (h : Wnd w g all) (h1 : 1 ≤ d) (h2 : d ≤ wlen all) (hn : n ≤ 1048576) (hl : all.length + n ≤ 1000000000) :
    Calls Try.prog 13 #[.pointer (some ⟨g, 0, none⟩), .int .i64 (d : Nat), .int .i64 (n : Nat)] w (CopyP g all d n w) := by
  obtain ⟨i0, hi, hz0, hz1, hz2⟩ := info_parts info5
  simp only at hz0 hz1 hz2
  have HLN := Lib.hid (len_any g all w h (by omega))
  have HW := Lib.hid h
  have hgl := h.lt
  have hda : d ≤ all.length := by unfold wlen at h2; omega
  have hd2 : d ≤ 32768 := by unfold wlen at h2; omega
  obtain ⟨m0, hm0⟩ : ∃ m0, wlen all = m0 := ⟨_, rfl⟩
  rw [hm0] at HLN h2
  have x1 : decide ((d : Int) < 1) = false := by simp; omega
  have x1' : decide (d < 1) = false := by simp; omega
  have x2 : decide (m0 < d) = false := by simp; omega
  have x3 : decide (1048576 < n) = false := by simp; omega
  have x3' : decide ((1048576 : Int) < (n : Int)) = false := by simp; omega
  clear h hm0
  obtain ⟨q, hq⟩ : ∃ q, w.heap.size = q := ⟨_, rfl⟩
  have HQ := Lib.hid hq
  clear hq
  go_enter Try.func13, Try.ntmps13
  go_wp2_with fail
  refine HLN.out.mono ?_
  rintro e wx ⟨rfl, rfl⟩
  go_wp2_with (at_make
               refine wpList_make_full _ rfl _ _ 27 rfl w.heap.size 5 i0 (.int .u8 0) 1 Try.underlying27 hi hz0 hz1 .i64 .i64 (n : Nat) (n : Nat) n rfl rfl (by simp) (by simp) (by rw [hz2]; omega) (by unfold maxLen; omega) (Nat.le_refl _) ?_
               intro w1 hown hg
               rw [toList_made_int, zeros_bv] at hown
               have HO := Lib.hid (show OwnB w1 w.heap.size w.heap.size n n (List.replicate n 0) from hown)
               have HA := Lib.hid (show Alone w w1 g from Alone.of_below ((Below.refl w.heap.size w).grown hg (Nat.le_refl _) (fun _ h => by cases h)) g)
               have HV := Lib.hid (HW.out.grown hg (by simp))
               clear hown hg)
  go_loopw [29] (fun i wr => ∃ k : Nat, k ≤ n ∧ i = .int .i64 (k : Nat) ∧ Hid (Wnd wr g (cpy all d k)) ∧ Hid (OwnB wr w.heap.size w.heap.size n n (outTo all d n k)) ∧ Hid (Alone w wr g)) (fun i _ => n - (intOf i).toNat)
  case atStart => exact ⟨0, Nat.zero_le _, rfl, HV, Lib.hid (by unfold outTo cpt; simpa [cpy] using HO.out), HA⟩
  case round =>
    obtain ⟨k, hk, rfl, HV, HO, HA⟩ := hrel
    by_cases hlt : k < n
    · have hlen := cpy_len all d k
      have HS := Lib.hid (outTo_set all d n k hlt)
      have hback := HV.out.back h1 (by rw [hlen]; omega) hd2
      obtain ⟨c1, f1, u, c2⟩ := HV.out.at_
      have f2 := f1 32768
      have hC : cpy all d (k + 1) = cpy all d k ++ [(cpy all d k).getD (all.length + k - d) 0] := rfl
      rw [hlen] at hback c1 c2
      obtain ⟨x, hx⟩ : ∃ x, (cpy all d k).getD (all.length + k - d) 0 = x := ⟨_, rfl⟩
      rw [hx] at hback HS hC
      obtain ⟨m, hm⟩ : ∃ m, all.length + k = m := ⟨_, rfl⟩
      rw [hm] at hback c1 c2 hlen
      obtain ⟨r, hr⟩ : ∃ r, m % 32768 = r := ⟨_, rfl⟩
      obtain ⟨s, hs⟩ : ∃ s, (m - d) % 32768 = s := ⟨_, rfl⟩
      rw [hs] at hback
      have fr := f1 r
      have fs := f1 s
      have e1 : (m : Int).tmod 32768 = (r : Int) := by rw [Int.tmod_eq_emod_of_nonneg (by omega)]; omega
      have e1' : (m : Int) % 32768 = (r : Int) := by omega
      have e0 : IntKind.i64.wrap ((m : Int) - (d : Int)) = (m : Int) - (d : Int) := IntWalk.i64_in _ (by omega)
      have e2 : ((m : Int) - (d : Int)).tmod 32768 = (s : Int) := by rw [Int.tmod_eq_emod_of_nonneg (by omega)]; omega
      have e2' : ((m : Int) - (d : Int)) % 32768 = (s : Int) := by omega
      have hr2 : (r : Int) < 32768 := by omega
      have hs2 : (s : Int) < 32768 := by omega
      have hmb : (m : Int) ≤ 1000000000 := by omega
      have hP := HV.out.put x
      rw [hlen, hr, ← hC] at hP
      rw [hr] at c2
      have HP := Lib.hid hP
      have ne1 : ¬ r = 32768 := by omega
      have ne2 : ¬ 32768 = r := by omega
      have f3 := HO.out.free k
      obtain ⟨u2, c3⟩ := HO.out.cell hlt
      have neq : ¬ g = w.heap.size := by omega
      have neq2 : ¬ w.heap.size = g := by omega
      clear f1 hlen hm hr hP hs hx hC
      go_wp2
      go_quiet (fail)
      go_wp2
      refine wp_region_tail 10 (by kernel_rfl) (by kernel_rfl) ?_
      simp only [List.take_succ_cons, List.take_zero, List.drop_succ_cons, List.drop_zero]
      repeat still_step
      refine wpStill_nil ?_
      go_wp2
      go_round
      case rel =>
        refine ⟨k + 1, by omega, by go_num, Lib.hid ?_, Lib.hid ?_, Lib.hid ?_⟩
        · exact HP.out.other (p := ⟨w.heap.size, k, none⟩) neq (bv x)
        · have h1 := ((HO.out.drewN nq).other (p := ⟨g, r, none⟩) neq2 (bv x)).other (p := ⟨g, 32768, none⟩) neq2 (.int .i64 ((m + 1 : Nat) : Int))
          have h2 := h1.put k x
          rw [HS.out] at h2
          exact h2
        · exact alone_new (((HA.out.drewN _).put r (bv x)).put 32768 (.int .i64 ((m + 1 : Nat) : Int))) (p := ⟨w.heap.size, k, none⟩) (Nat.le_refl _) (bv x)
      case measure => simp [intOf]; omega
    · obtain rfl : k = n := by omega
      go_wp2
      go_ret2
      exact ⟨w.heap.size, rfl, outTo_all all d k ▸ HO.out, HV.out, HA.out⟩
end Go.Proofs.Ytphphejabgjnjaa
