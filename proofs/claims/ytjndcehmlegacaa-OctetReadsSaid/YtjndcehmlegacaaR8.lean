/- OctetReads: every call. -/
import Derived.Test.YtjndcehmlegacaaR7
namespace Go.Proofs.Ytjndcehmlegacaa
open Go.RowKit

theorem Rdr.drewN {w : World} {g n c p : Nat} {A : Option Addr} {bs : List UInt8} (h : Rdr w g A n c bs p) (m : Nat) : Rdr (w.drewN m) g A n c bs p := h.below ((Below.refl w.heap.size w).drewN' m)
theorem number_eq (A : Option Addr) (n c : Nat) (bs : List UInt8) (v : Nat) (S : Nat → Prop) (w : World) (hB : Bs w S A n bs) (hn : n ≤ 8) (hv : num bs = v) :
    Calls Try.prog 13 #[.slice A n c] w fun e w' => e = .returned (.int .u64 (v : Nat)) ∧ w = w' := hv ▸ number_any A n c bs S w hB hn
set_option maxRecDepth 100000 in
set_option maxHeartbeats 4000000 in
theorem reads_round (A B : Option Addr) (n m d : Nat) (cx : Nat × Nat) (bs : List UInt8) (l : List Tri) (W : World) (hA : Bs W (fun b => b < W.heap.size) A n bs) (hnc : n ≤ cx.1) (hc : cx.1 ≤ 9223372036854775807)
    (hL : Ts W (fun b => b < W.heap.size) B m l) (hbd : ∀ q ∈ l, q.2.1 ≤ 9223372036854775807 ∧ q.2.2 < 18446744073709551616) : Calls Try.prog 4 #[.slice A n cx.1, .slice B m d] W fun e w' => e = .returned (.bool true) ∧ Below W.heap.size W w' := by
  have hll := hL.len
  have HA := Lib.hid hA
  have HL := Lib.hid hL
  have HD := Lib.hid hbd
  clear hA hL hbd
  go_enter Try.func4, Try.ntmps4
  go_wp2_with fail
  refine (awake_any W).mono ?_
  rintro x w1 ⟨rfl, hb1⟩
  have HB1 := Lib.hid hb1
  have HA1 := Lib.hid (HA.out.below hb1)
  clear hb1
  by_cases hn : 300 < n
  · have hd1 : decide ((300 : Int) < n) = true := by simp; omega
    go_wp2
    go_ret
    exact ⟨rfl, HB1.out⟩
  have hd1 : decide ((300 : Int) < n) = false := by simp; omega
  by_cases hm : 50 < m
  · have hd2 : decide ((50 : Int) < m) = true := by simp; omega
    go_wp2
    go_ret
    exact ⟨rfl, HB1.out⟩
  have hd2 : decide ((50 : Int) < m) = false := by simp; omega
  go_wp2_with fail
  refine (over_any A n cx.1 bs _ w1 HA1.out (by omega)).mono ?_
  rintro x w3 ⟨A2, c2, g, rfl, hg, hR, hnc2, hc2, hb3⟩
  have HR := Lib.hid hR
  have HB3 := Lib.hid (HB1.out.trans (hb3.mono HB1.out.size))
  have hgW : W.heap.size ≤ g := Nat.le_trans HB1.out.size hg
  have hpn : ∀ w, (binOp .eql 40 (.pointer (some ⟨g, 0, none⟩)) (.pointer none)).run Try.prog w = .ok (.bool false) w := fun w => by kernel_rfl
  clear hR hb3 hg hd1 hd2 HA1 HB1
  go_wp2_with fail
  go_loopw [6, 7] (fun at' i wr => ∃ (j p : Nat), j ≤ m ∧ p ≤ n ∧ at' = .int .i64 p ∧ i = .int .i64 j ∧ Hid (Rdr wr g A2 n c2 bs p) ∧ Hid (Below W.heap.size W wr)) (fun _ i _ => m - (intOf i).toNat)
  case atStart => exact ⟨0, 0, Nat.zero_le _, Nat.zero_le _, rfl, rfl, HR, HB3⟩
  case round =>
    obtain ⟨j, p, hj, hp, rfl, rfl, hR2, hB2⟩ := hrel
    by_cases hlt : j < m
    · obtain ⟨b0, off0, rfl, hc0, hc1, hc2'⟩ := (HL.out.below hB2.out).at_ hlt
      have hq := HD.out (l.getD j (0, 0, 0)) (by rw [List.getD_eq_getElem?_getD, List.getElem?_eq_getElem (by omega)]; simp)
      generalize l.getD j (0, 0, 0) = q at hc0 hc1 hc2' hq
      obtain ⟨K, N, V⟩ := q
      simp only at hc0 hc1 hc2' hq
      obtain ⟨hq1, hq2⟩ := hq
      have HX := Lib.hid (Whole.new wr 43 #[.int .i64 K, .int .i64 N, .int .u64 V] rfl)
      have HRa := Lib.hid (hR2.out.below ((Below.refl wr.heap.size wr).alloc (Nat.le_refl _) (.cells #[.int .i64 K, .int .i64 N, .int .u64 V] 43)))
      have HBa := Lib.hid (hB2.out.alloc hB2.out.size (.cells #[.int .i64 K, .int .i64 N, .int .u64 V] 43))
      have hgl := hR2.out.1.lt
      have HRd := Lib.hid (read_any g A2 n c2 bs p K N V _ HRa.out hp hnc2 (by omega) hc2 hq1)
      by_cases hbad : rbad K N = true
      · have hres : rres bs n p K N V = (some 1, [], p) := by unfold rres; rw [if_pos hbad]
        unfold rbad at hbad
        simp only [decide_eq_true_eq] at hbad
        by_cases d1 : N < 0
        · have e1 : decide (N < 0) = true := by simpa using d1
          rw [hres] at HRd
          clear hres
          go_wp2_with fail
          refine HRd.out.mono ?_
          rintro e w2 ⟨A3, c3, rfl, hX, hM⟩
          have hb2 : Below W.heap.size W w2 := hM.1.below HBa.out hgW (by simp; omega)
          have HRE := Lib.hid (show Rdr (w2.alloc (.cells #[] 5)) g A2 n c2 bs p from (hM.rdr HRa.out).below ((Below.refl _ _).alloc (Nat.le_refl _) _))
          have HBE := Lib.hid (hb2.alloc hb2.size (.cells #[] 5))
          have bx := hM.1.whole HX.out (by omega)
          have pb := bx.lt
          have x0 := bx.cell 0
          have y0 := bx.free 0
          have x1 := bx.cell 1
          have y1 := bx.free 1
          have k1 := fun w : World => str_of (w := w) c3 (Bs.empty w (fun _ => True) A3)
          have k2 := fun w : World => str_of (w := w) 0 (Bs.empty w (fun _ => True) (some ⟨w2.heap.size, 0, none⟩))
          clear hX hM hb2 bx HRd HRa HBa HX
          go_wp2_with fail
          refine (at_any g A2 n c2 bs p _ HRE.out).mono ?_
          rintro e w8 ⟨rfl, rfl⟩
          go_wp2_with fail
          refine (left_any g A2 n c2 bs p _ HRE.out (by omega) (by omega)).mono ?_
          rintro e w9 ⟨rfl, hb9⟩
          have HR9 := Lib.hid (HRE.out.below hb9)
          have HB9 := Lib.hid (HBE.out.trans (hb9.mono HBE.out.size))
          clear hb9 HRE HBE
          go_wp2
          exact ⟨⟨j + 1, p, by omega, by omega, rfl, by go_num, HR9, HB9⟩, by simp [intOf] <;> omega⟩
        · have e1 : decide (N < 0) = false := by simpa using d1
          have e2 : (K != 0) = true := by have := hbad.resolve_left d1; simpa using this.1
          by_cases d3 : N < 1
          · have e3 : decide (N < 1) = true := by simpa using d3
            rw [hres] at HRd
            clear hres
            go_wp2_with fail
            refine HRd.out.mono ?_
            rintro e w2 ⟨A3, c3, rfl, hX, hM⟩
            have hb2 : Below W.heap.size W w2 := hM.1.below HBa.out hgW (by simp; omega)
            have HRE := Lib.hid (show Rdr (w2.alloc (.cells #[] 5)) g A2 n c2 bs p from (hM.rdr HRa.out).below ((Below.refl _ _).alloc (Nat.le_refl _) _))
            have HBE := Lib.hid (hb2.alloc hb2.size (.cells #[] 5))
            have bx := hM.1.whole HX.out (by omega)
            have pb := bx.lt
            have x0 := bx.cell 0
            have y0 := bx.free 0
            have x1 := bx.cell 1
            have y1 := bx.free 1
            have k1 := fun w : World => str_of (w := w) c3 (Bs.empty w (fun _ => True) A3)
            have k2 := fun w : World => str_of (w := w) 0 (Bs.empty w (fun _ => True) (some ⟨w2.heap.size, 0, none⟩))
            clear hX hM hb2 bx HRd HRa HBa HX
            go_wp2_with fail
            refine (at_any g A2 n c2 bs p _ HRE.out).mono ?_
            rintro e w8 ⟨rfl, rfl⟩
            go_wp2_with fail
            refine (left_any g A2 n c2 bs p _ HRE.out (by omega) (by omega)).mono ?_
            rintro e w9 ⟨rfl, hb9⟩
            have HR9 := Lib.hid (HRE.out.below hb9)
            have HB9 := Lib.hid (HBE.out.trans (hb9.mono HBE.out.size))
            clear hb9 HRE HBE
            go_wp2
            exact ⟨⟨j + 1, p, by omega, by omega, rfl, by go_num, HR9, HB9⟩, by simp [intOf] <;> omega⟩
          · have e3 : decide (N < 1) = false := by simpa using d3
            have e4 : decide (8 < N) = true := by have := (hbad.resolve_left d1).2.resolve_left d3; simpa using this
            rw [hres] at HRd
            clear hres
            go_wp2_with fail
            refine HRd.out.mono ?_
            rintro e w2 ⟨A3, c3, rfl, hX, hM⟩
            have hb2 : Below W.heap.size W w2 := hM.1.below HBa.out hgW (by simp; omega)
            have HRE := Lib.hid (show Rdr (w2.alloc (.cells #[] 5)) g A2 n c2 bs p from (hM.rdr HRa.out).below ((Below.refl _ _).alloc (Nat.le_refl _) _))
            have HBE := Lib.hid (hb2.alloc hb2.size (.cells #[] 5))
            have bx := hM.1.whole HX.out (by omega)
            have pb := bx.lt
            have x0 := bx.cell 0
            have y0 := bx.free 0
            have x1 := bx.cell 1
            have y1 := bx.free 1
            have k1 := fun w : World => str_of (w := w) c3 (Bs.empty w (fun _ => True) A3)
            have k2 := fun w : World => str_of (w := w) 0 (Bs.empty w (fun _ => True) (some ⟨w2.heap.size, 0, none⟩))
            clear hX hM hb2 bx HRd HRa HBa HX
            go_wp2_with fail
            refine (at_any g A2 n c2 bs p _ HRE.out).mono ?_
            rintro e w8 ⟨rfl, rfl⟩
            go_wp2_with fail
            refine (left_any g A2 n c2 bs p _ HRE.out (by omega) (by omega)).mono ?_
            rintro e w9 ⟨rfl, hb9⟩
            have HR9 := Lib.hid (HRE.out.below hb9)
            have HB9 := Lib.hid (HBE.out.trans (hb9.mono HBE.out.size))
            clear hb9 HRE HBE
            go_wp2
            exact ⟨⟨j + 1, p, by omega, by omega, rfl, by go_num, HR9, HB9⟩, by simp [intOf] <;> omega⟩
      have hbad2 := hbad
      unfold rbad at hbad2
      simp only [decide_eq_true_eq] at hbad2
      obtain ⟨k, rfl⟩ := Int.eq_ofNat_of_zero_le (show 0 ≤ N by omega)
      have e1 : decide ((k : Int) < 0) = false := by simp
      by_cases k0 : K = 0
      · subst k0
        by_cases hs : (n : Int) - p < (k : Int)
        · have hres : rres bs n p 0 k V = (some 4, [], p) := by unfold rres; rw [if_neg hbad, if_pos hs]
          have e5 : decide ((n : Int) - p < (k : Int)) = true := by simpa using hs
          rw [hres] at HRd
          clear hres
          go_wp2_with fail
          refine HRd.out.mono ?_
          rintro e w2 ⟨A3, c3, rfl, hX, hM⟩
          have hb2 : Below W.heap.size W w2 := hM.1.below HBa.out hgW (by simp; omega)
          have HRE := Lib.hid (show Rdr (w2.alloc (.cells #[] 5)) g A2 n c2 bs p from (hM.rdr HRa.out).below ((Below.refl _ _).alloc (Nat.le_refl _) _))
          have HBE := Lib.hid (hb2.alloc hb2.size (.cells #[] 5))
          have bx := hM.1.whole HX.out (by omega)
          have pb := bx.lt
          have x0 := bx.cell 0
          have y0 := bx.free 0
          have x1 := bx.cell 1
          have y1 := bx.free 1
          have k1 := fun w : World => str_of (w := w) c3 (Bs.empty w (fun _ => True) A3)
          have k2 := fun w : World => str_of (w := w) 0 (Bs.empty w (fun _ => True) (some ⟨w2.heap.size, 0, none⟩))
          clear hX hM hb2 bx HRd HRa HBa HX
          go_wp2_with fail
          refine (at_any g A2 n c2 bs p _ HRE.out).mono ?_
          rintro e w8 ⟨rfl, rfl⟩
          go_wp2_with fail
          refine (left_any g A2 n c2 bs p _ HRE.out (by omega) (by omega)).mono ?_
          rintro e w9 ⟨rfl, hb9⟩
          have HR9 := Lib.hid (HRE.out.below hb9)
          have HB9 := Lib.hid (HBE.out.trans (hb9.mono HBE.out.size))
          clear hb9 HRE HBE
          go_wp2
          exact ⟨⟨j + 1, p, by omega, by omega, rfl, by go_num, HR9, HB9⟩, by simp [intOf] <;> omega⟩
        have e5 : decide ((n : Int) - p < (k : Int)) = false := by simpa using hs
        have hpk : p + k ≤ n := by omega
        obtain ⟨xs, hxs⟩ : ∃ xs, (bs.drop p).take k = xs := ⟨_, rfl⟩
        have hres : rres bs n p 0 k V = (none, xs, p + k) := by unfold rres; rw [if_neg hbad, if_neg hs, if_pos rfl]; simp [hxs]
        by_cases hk0 : k = 0
        · subst hk0
          obtain rfl : xs = [] := by rw [← hxs]; rfl
          by_cases hcp : p = cx.1
          · subst hcp
            rw [hres] at HRd
            clear hres
            go_wp2_with fail
            refine HRd.out.mono ?_
            rintro e w2 ⟨A3, c3, rfl, hX, hM⟩
            have hb2 : Below W.heap.size W w2 := hM.1.below HBa.out hgW (by simp; omega)
            have HRE := Lib.hid (show Rdr (w2.alloc (.cells #[] 5)) g A2 n c2 bs (cx.1 + 0) from (hM.rdr HRa.out).below ((Below.refl _ _).alloc (Nat.le_refl _) _))
            have HBE := Lib.hid (hb2.alloc hb2.size (.cells #[] 5))
            have bx := hM.1.whole HX.out (by omega)
            have HBX := Lib.hid bx
            have pb := bx.lt
            have x0 := bx.cell 0
            have y0 := bx.free 0
            have x1 := bx.cell 1
            have y1 := bx.free 1
            have x2 := bx.cell 2
            have y2 := bx.free 2
            have HX3 := Lib.hid (hX.alloc (.cells #[] 5))
            clear hX hM hb2 bx HRd HRa HBa HX
            have k1 := str_of (w := w2.alloc (.cells #[] 5)) c3 HX3.out
            have k2 := fun (A' : Option Addr) (c' : Nat) => str_of (w := w2.alloc (.cells #[] 5)) (A := A') c' (Bs.empty _ (fun _ => True) A')
            go_wp2_with fail
            refine (at_any g A2 n c2 bs (cx.1 + 0) _ HRE.out).mono ?_
            rintro e w8 ⟨rfl, rfl⟩
            go_wp2_with fail
            refine (left_any g A2 n c2 bs (cx.1 + 0) _ HRE.out (by omega) (by omega)).mono ?_
            rintro e w9 ⟨rfl, hb9⟩
            have HR9 := Lib.hid (HRE.out.below hb9)
            have HB9 := Lib.hid (HBE.out.trans (hb9.mono HBE.out.size))
            clear hb9 HRE HBE
            go_wp2
            exact ⟨⟨j + 1, (cx.1 + 0), by omega, by omega, by go_num, by go_num, HR9, HB9⟩, by simp [intOf] <;> omega⟩
          · have hcp' : ¬ cx.1 = p := fun e => hcp e.symm
            rw [hres] at HRd
            clear hres
            go_wp2_with fail
            refine HRd.out.mono ?_
            rintro e w2 ⟨A3, c3, rfl, hX, hM⟩
            have hb2 : Below W.heap.size W w2 := hM.1.below HBa.out hgW (by simp; omega)
            have HRE := Lib.hid (show Rdr (w2.alloc (.cells #[] 5)) g A2 n c2 bs (p + 0) from (hM.rdr HRa.out).below ((Below.refl _ _).alloc (Nat.le_refl _) _))
            have HBE := Lib.hid (hb2.alloc hb2.size (.cells #[] 5))
            have bx := hM.1.whole HX.out (by omega)
            have HBX := Lib.hid bx
            have pb := bx.lt
            have x0 := bx.cell 0
            have y0 := bx.free 0
            have x1 := bx.cell 1
            have y1 := bx.free 1
            have x2 := bx.cell 2
            have y2 := bx.free 2
            have HX3 := Lib.hid (hX.alloc (.cells #[] 5))
            clear hX hM hb2 bx HRd HRa HBa HX
            have k1 := str_of (w := w2.alloc (.cells #[] 5)) c3 HX3.out
            have k2 := fun (A' : Option Addr) (c' : Nat) => str_of (w := w2.alloc (.cells #[] 5)) (A := A') c' (Bs.empty _ (fun _ => True) A')
            go_wp2_with fail
            refine (at_any g A2 n c2 bs (p + 0) _ HRE.out).mono ?_
            rintro e w8 ⟨rfl, rfl⟩
            go_wp2_with fail
            refine (left_any g A2 n c2 bs (p + 0) _ HRE.out (by omega) (by omega)).mono ?_
            rintro e w9 ⟨rfl, hb9⟩
            have HR9 := Lib.hid (HRE.out.below hb9)
            have HB9 := Lib.hid (HBE.out.trans (hb9.mono HBE.out.size))
            clear hb9 HRE HBE
            go_wp2
            exact ⟨⟨j + 1, (p + 0), by omega, by omega, by go_num, by go_num, HR9, HB9⟩, by simp [intOf] <;> omega⟩
        · have hxl : xs.length = k := by rw [← hxs]; have := HA.out.len; simp; omega
          obtain ⟨ab, ao, rfl, _, _, _⟩ := HA.out.at_ (show 0 < n by omega)
          have hcp : ¬ cx.1 = p := by omega
          rw [hres] at HRd
          clear hres
          go_wp2_with fail
          refine HRd.out.mono ?_
          rintro e w2 ⟨A3, c3, rfl, hX, hM⟩
          have hb2 : Below W.heap.size W w2 := hM.1.below HBa.out hgW (by simp; omega)
          have HRE := Lib.hid (show Rdr (w2.alloc (.cells #[] 5)) g A2 n c2 bs (p + k) from (hM.rdr HRa.out).below ((Below.refl _ _).alloc (Nat.le_refl _) _))
          have HBE := Lib.hid (hb2.alloc hb2.size (.cells #[] 5))
          have bx := hM.1.whole HX.out (by omega)
          have HBX := Lib.hid bx
          have pb := bx.lt
          have x0 := bx.cell 0
          have y0 := bx.free 0
          have x1 := bx.cell 1
          have y1 := bx.free 1
          have x2 := bx.cell 2
          have y2 := bx.free 2
          have HX3 := Lib.hid (hX.alloc (.cells #[] 5))
          clear hX hM hb2 bx HRd HRa HBa HX
          have k1 := str_of (w := w2.alloc (.cells #[] 5)) c3 HX3.out
          have k2 := str_of (cx.1 - p) (((HA.out.below HBE.out).drop (k := p) (by omega)).take (k := k) (by omega))
          rw [hxs] at k2
          have k3 := k2
          rw [show k = p + k - p by omega] at k3
          rw [hxl] at k1
          go_wp2_with fail
          refine (at_any g A2 n c2 bs (p + k) _ HRE.out).mono ?_
          rintro e w8 ⟨rfl, rfl⟩
          go_wp2_with fail
          refine (left_any g A2 n c2 bs (p + k) _ HRE.out (by omega) (by omega)).mono ?_
          rintro e w9 ⟨rfl, hb9⟩
          have HR9 := Lib.hid (HRE.out.below hb9)
          have HB9 := Lib.hid (HBE.out.trans (hb9.mono HBE.out.size))
          clear hb9 HRE HBE
          go_wp2
          exact ⟨⟨j + 1, (p + k), by omega, by omega, by go_num, by go_num, HR9, HB9⟩, by simp [intOf] <;> omega⟩
      have e2 : (K != 0) = true := by simpa using k0
      have e3 : decide ((k : Int) < 1) = false := by simp; omega
      have e4 : decide (8 < (k : Int)) = false := by simp; omega
      have ek0 : (K == 0) = false := by simpa using k0
      by_cases hs : (n : Int) - p < (k : Int)
      · have hres : rres bs n p K k V = (some 4, [], p) := by unfold rres; rw [if_neg hbad, if_pos hs]
        have e5 : decide ((n : Int) - p < (k : Int)) = true := by simpa using hs
        rw [hres] at HRd
        clear hres
        go_wp2_with fail
        refine HRd.out.mono ?_
        rintro e w2 ⟨A3, c3, rfl, hX, hM⟩
        have hb2 : Below W.heap.size W w2 := hM.1.below HBa.out hgW (by simp; omega)
        have HRE := Lib.hid (show Rdr (w2.alloc (.cells #[] 5)) g A2 n c2 bs p from (hM.rdr HRa.out).below ((Below.refl _ _).alloc (Nat.le_refl _) _))
        have HBE := Lib.hid (hb2.alloc hb2.size (.cells #[] 5))
        have bx := hM.1.whole HX.out (by omega)
        have pb := bx.lt
        have x0 := bx.cell 0
        have y0 := bx.free 0
        have x1 := bx.cell 1
        have y1 := bx.free 1
        have k1 := fun w : World => str_of (w := w) c3 (Bs.empty w (fun _ => True) A3)
        have k2 := fun w : World => str_of (w := w) 0 (Bs.empty w (fun _ => True) (some ⟨w2.heap.size, 0, none⟩))
        clear hX hM hb2 bx HRd HRa HBa HX
        go_wp2_with fail
        refine (at_any g A2 n c2 bs p _ HRE.out).mono ?_
        rintro e w8 ⟨rfl, rfl⟩
        go_wp2_with fail
        refine (left_any g A2 n c2 bs p _ HRE.out (by omega) (by omega)).mono ?_
        rintro e w9 ⟨rfl, hb9⟩
        have HR9 := Lib.hid (HRE.out.below hb9)
        have HB9 := Lib.hid (HBE.out.trans (hb9.mono HBE.out.size))
        clear hb9 HRE HBE
        go_wp2
        exact ⟨⟨j + 1, p, by omega, by omega, rfl, by go_num, HR9, HB9⟩, by simp [intOf] <;> omega⟩
      have e5 : decide ((n : Int) - p < (k : Int)) = false := by simpa using hs
      have hpk : p + k ≤ n := by omega
      by_cases k1' : K = 1
      · have ek1 : (K == 1) = true := by simpa using k1'
        have en1 : (K != 1) = false := by simpa using k1'
        obtain ⟨xs, hxs⟩ : ∃ xs, (bs.drop p).take k = xs := ⟨_, rfl⟩
        have hxl : xs.length = k := by rw [← hxs]; have := HA.out.len; simp; omega
        obtain ⟨v, hv⟩ : ∃ v, num xs = v := ⟨_, rfl⟩
        have hvl : v < 18446744073709551616 := by rw [← hv]; exact Nat.lt_of_lt_of_le (num_lt _) (by rw [hxl]; exact pow_le8 k (by omega))
        obtain ⟨ys, hys⟩ : ∃ ys, leB v 8 = ys := ⟨_, rfl⟩
        have hyl : ys.length = 8 := by rw [← hys]; simp [leB]
        have hres : rres bs n p K k V = (none, ys, p + k) := by unfold rres; rw [if_neg hbad, if_neg hs, if_neg k0, if_pos k1']; simp [hxs, hv, hys]
        have HV := Lib.hid hv
        have HYS := Lib.hid hys
        obtain ⟨ab, ao, rfl, _, _, _⟩ := HA.out.at_ (show 0 < n by omega)
        have hcp : ¬ cx.1 = p := by omega
        have hk8 : k ≤ 8 := by omega
        have HN := Lib.hid (And.intro k0 k1')
        clear hv hys hxl k0 k1' hbad hbad2
        rw [hres] at HRd
        clear hres
        go_wp2_with fail
        refine HRd.out.mono ?_
        rintro e w2 ⟨A3, c3, rfl, hX, hM⟩
        have hb2 : Below W.heap.size W w2 := hM.1.below HBa.out hgW (by simp; omega)
        have HRE := Lib.hid (show Rdr (w2.alloc (.cells #[] 5)) g A2 n c2 bs (p + k) from (hM.rdr HRa.out).below ((Below.refl _ _).alloc (Nat.le_refl _) _))
        have HBE := Lib.hid (hb2.alloc hb2.size (.cells #[] 5))
        have bx := hM.1.whole HX.out (by omega)
        have HBX := Lib.hid bx
        have pb := bx.lt
        have x0 := bx.cell 0
        have y0 := bx.free 0
        have x1 := bx.cell 1
        have y1 := bx.free 1
        have x2 := bx.cell 2
        have y2 := bx.free 2
        have HX3 := Lib.hid (hX.alloc (.cells #[] 5))
        clear hX hM hb2 bx HRd HRa HBa HX
        have hQ := ((HA.out.below HBE.out).drop (k := p) (by omega)).take (k := k) (by omega)
        rw [hxs] at hQ
        have HQ := Lib.hid hQ
        have HZ := Lib.hid ((Whole.alloc (show Whole w2 wr.heap.size 43 #[.int .i64 K, .int .i64 k, .int .u64 V] from HBX.out) (.cells #[] 5)))
        clear hQ hxs
        go_wp2_with fail
        refine (number_any (some ⟨ab, ao + p, none⟩) k (cx.1 - p) xs _ _ HQ.out (by omega)).mono ?_
        rintro e w5 ⟨rfl, rfl⟩
        rw [HV.out]
        go_wp2_with fail
        refine (rbytes_any v 8 _ hvl (by omega)).mono ?_
        rintro e w6 ⟨A4, c4, rfl, ho, hb6⟩
        have k1 := str_of c3 (HX3.out.below hb6)
        have k2 := str_of c4 (Bs.of_own ho)
        rw [HYS.out] at k2
        rw [hyl] at k1
        have HRE := Lib.hid (HRE.out.below hb6)
        have HBE := Lib.hid (HBE.out.trans (hb6.mono HBE.out.size))
        have x0 := (HZ.out.below' hb6).cell 0
        have y0 := (HZ.out.below' hb6).free 0
        clear ho hb6 HX3 HQ HZ
        go_wp2_with fail
        refine (at_any g A2 n c2 bs (p + k) _ HRE.out).mono ?_
        rintro e w8 ⟨rfl, rfl⟩
        go_wp2_with fail
        refine (left_any g A2 n c2 bs (p + k) _ HRE.out (by omega) (by omega)).mono ?_
        rintro e w9 ⟨rfl, hb9⟩
        have HR9 := Lib.hid (HRE.out.below hb9)
        have HB9 := Lib.hid (HBE.out.trans (hb9.mono HBE.out.size))
        clear hb9 HRE HBE
        go_wp2
        exact ⟨⟨j + 1, (p + k), by omega, by omega, by go_num, by go_num, HR9, HB9⟩, by simp [intOf] <;> omega⟩
      · have ek1 : (K == 1) = false := by simpa using k1'
        have en1 : (K != 1) = true := by simpa using k1'
        obtain ⟨xs, hxs⟩ : ∃ xs, (bs.drop p).take k = xs := ⟨_, rfl⟩
        have hk8 : k ≤ 8 := by omega
        obtain ⟨v, hv⟩ : ∃ v, num xs = v := ⟨_, rfl⟩
        have HV := Lib.hid hv
        obtain ⟨ab, ao, rfl, _, _, _⟩ := HA.out.at_ (show 0 < n by omega)
        have hcp : ¬ cx.1 = p := by omega
        by_cases hvv : v = V
        · have hres : rres bs n p K k V = (none, [], p + k) := by unfold rres; rw [if_neg hbad, if_neg hs, if_neg k0, if_neg k1']; simp [hxs, hv, hvv]
          have evv : ((v : Int) != (V : Int)) = false := by simp [hvv]
          have HN := Lib.hid (And.intro k0 k1')
          clear hv k0 k1' hbad hbad2 hvv
          rw [hres] at HRd
          clear hres
          go_wp2_with fail
          refine HRd.out.mono ?_
          rintro e w2 ⟨A3, c3, rfl, hX, hM⟩
          have hb2 : Below W.heap.size W w2 := hM.1.below HBa.out hgW (by simp; omega)
          have HRE := Lib.hid (show Rdr (w2.alloc (.cells #[] 5)) g A2 n c2 bs (p + k) from (hM.rdr HRa.out).below ((Below.refl _ _).alloc (Nat.le_refl _) _))
          have HBE := Lib.hid (hb2.alloc hb2.size (.cells #[] 5))
          have bx := hM.1.whole HX.out (by omega)
          have HBX := Lib.hid bx
          have pb := bx.lt
          have x0 := bx.cell 0
          have y0 := bx.free 0
          have x1 := bx.cell 1
          have y1 := bx.free 1
          have x2 := bx.cell 2
          have y2 := bx.free 2
          have k1 := fun w : World => str_of (w := w) c3 (Bs.empty w (fun _ => True) A3)
          have k2 := fun w : World => str_of (w := w) 0 (Bs.empty w (fun _ => True) none)
          clear hX hM hb2 bx HRd HRa HBa HX
          have hQ := ((HA.out.below HBE.out).drop (k := p) (by omega)).take (k := k) (by omega)
          rw [hxs] at hQ
          have hnum := Lib.hid (fun m => number_eq (some ⟨ab, ao + p, none⟩) k (cx.1 - p) xs v _ _ (hQ.drewN m) hk8 HV.out)
          clear hQ hxs
          go_wp2_with fail
          go_quiet ((go_at_call 13; (with_reducible exact Calls.quiet_eq (hnum.out _))))
          have HRE := Lib.hid (HRE.out.drewN nq)
          have HBE := Lib.hid (HBE.out.drewN' nq)
          go_wp2_with fail
          refine (at_any g A2 n c2 bs (p + k) _ HRE.out).mono ?_
          rintro e w8 ⟨rfl, rfl⟩
          go_wp2_with fail
          refine (left_any g A2 n c2 bs (p + k) _ HRE.out (by omega) (by omega)).mono ?_
          rintro e w9 ⟨rfl, hb9⟩
          have HR9 := Lib.hid (HRE.out.below hb9)
          have HB9 := Lib.hid (HBE.out.trans (hb9.mono HBE.out.size))
          clear hb9 HRE HBE
          go_wp2
          exact ⟨⟨j + 1, (p + k), by omega, by omega, by go_num, by go_num, HR9, HB9⟩, by simp [intOf] <;> omega⟩
        · have hres : rres bs n p K k V = (some 35, [], p + k) := by unfold rres; rw [if_neg hbad, if_neg hs, if_neg k0, if_neg k1']; simp [hxs, hv, hvv]
          have evv : ((v : Int) != (V : Int)) = true := by simp; omega
          have HN := Lib.hid (And.intro k0 k1')
          clear hv k0 k1' hbad hbad2 hvv
          rw [hres] at HRd
          clear hres
          go_wp2_with fail
          refine HRd.out.mono ?_
          rintro e w2 ⟨A3, c3, rfl, hX, hM⟩
          have hb2 : Below W.heap.size W w2 := hM.1.below HBa.out hgW (by simp; omega)
          have HRE := Lib.hid (show Rdr (w2.alloc (.cells #[] 5)) g A2 n c2 bs (p + k) from (hM.rdr HRa.out).below ((Below.refl _ _).alloc (Nat.le_refl _) _))
          have HBE := Lib.hid (hb2.alloc hb2.size (.cells #[] 5))
          have bx := hM.1.whole HX.out (by omega)
          have HBX := Lib.hid bx
          have pb := bx.lt
          have x0 := bx.cell 0
          have y0 := bx.free 0
          have x1 := bx.cell 1
          have y1 := bx.free 1
          have x2 := bx.cell 2
          have y2 := bx.free 2
          have k1 := fun w : World => str_of (w := w) c3 (Bs.empty w (fun _ => True) A3)
          have k2 := fun w : World => str_of (w := w) 0 (Bs.empty w (fun _ => True) none)
          clear hX hM hb2 bx HRd HRa HBa HX
          have hQ := ((HA.out.below HBE.out).drop (k := p) (by omega)).take (k := k) (by omega)
          rw [hxs] at hQ
          have hnum := Lib.hid (fun m => number_eq (some ⟨ab, ao + p, none⟩) k (cx.1 - p) xs v _ _ (hQ.drewN m) hk8 HV.out)
          clear hQ hxs
          go_wp2_with fail
          go_quiet ((go_at_call 13; (with_reducible exact Calls.quiet_eq (hnum.out _))))
          have HRE := Lib.hid (HRE.out.drewN nq)
          have HBE := Lib.hid (HBE.out.drewN' nq)
          go_wp2_with fail
          refine (at_any g A2 n c2 bs (p + k) _ HRE.out).mono ?_
          rintro e w8 ⟨rfl, rfl⟩
          go_wp2_with fail
          refine (left_any g A2 n c2 bs (p + k) _ HRE.out (by omega) (by omega)).mono ?_
          rintro e w9 ⟨rfl, hb9⟩
          have HR9 := Lib.hid (HRE.out.below hb9)
          have HB9 := Lib.hid (HBE.out.trans (hb9.mono HBE.out.size))
          clear hb9 HRE HBE
          go_wp2
          exact ⟨⟨j + 1, (p + k), by omega, by omega, by go_num, by go_num, HR9, HB9⟩, by simp [intOf] <;> omega⟩
    · obtain rfl : j = m := by omega
      go_wp2
      go_ret
      exact ⟨rfl, hB2.out⟩
end Go.Proofs.Ytjndcehmlegacaa
