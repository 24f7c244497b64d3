/- BitoutPlays: the law itself. -/
import Derived.Test.YthpbiakjkmhfeaaP9
namespace Go.Proofs.Ythpbiakjkmhfeaa
open Go.RowKit

theorem str_of {w : World} {S : Nat → Prop} {A : Option Addr} {n : Nat} {bs : List UInt8} (c : Nat) (h : Bs w S A n bs) : (convert 27 9 (.slice A n c)).run Try.prog w = .ok (.string ⟨bs.toArray⟩) w :=
  run_string_bs 27 9 5 c Try.underlying27 Try.underlying5 Try.underlying9 h
theorem ptr_ne (g : Nat) (w : World) : (binOp .eql 24 (.pointer (some ⟨g, 0, none⟩)) (.pointer none)).run Try.prog w = .ok (.bool false) w := by kernel_rfl
theorem St.keep {w w' : World} {base g : Nat} {A : Option Addr} {c : Nat} {D : List UInt8} {L N : Nat} {Ab : Option Addr} {nb cb : Nat} {bs : List Bool} {Ao : Option Addr} {no co : Nat} {O : List UInt8} {D' : List UInt8} {L' N' k : Nat} {r : Value} {e : Ending} {cs : Array Value}
    (h : St w base g A c D L N Ab nb cb bs Ao no co O) (hp : Put w base g A D' L' N' r e w') (hT : Whole w k 30 cs) : Whole w' k 30 cs := by
  obtain ⟨_, _, _, _, hC, _⟩ := hp
  refine hC.whole hT ?_
  rintro (rfl | hi)
  · have := whole_ty hT h.wr.2.1
    cases this
  · obtain ⟨_, _, cs2, h2⟩ := own_blk h.wr.2.2 hi
    have := whole_ty hT h2
    cases this
theorem getD_mem {α : Type} (l : List α) (d : α) (j : Nat) (h : j < l.length) : l.getD j d ∈ l := by
  rw [List.getD_eq_getElem?_getD, List.getElem?_eq_getElem h]
  simp
set_option maxRecDepth 100000 in
set_option maxHeartbeats 16000000 in
theorem plays_law (A : Option Addr) (n c : Nat) (l : List Wop) (W : World) (hL : Ops W A n l) (hq : ∀ q ∈ l, q.2.2.1 < 4294967296) :
    Calls Try.prog 3 #[.slice A n c] W fun e w' => e = .returned (.bool true) ∧ Below W.heap.size W w' := by
  have HLen := Lib.hid hL.1
  have HL := Lib.hid hL
  have HQ := Lib.hid hq
  clear hL hq
  go_enter Try.func3, Try.ntmps3
  go_wp2_with fail
  refine (awake_any _).mono ?_
  rintro e w1 ⟨rfl, hb1⟩
  have HB1 := Lib.hid hb1
  clear hb1
  by_cases hn : 60 < n
  · have d1 : decide ((60 : Int) < (n : Int)) = true := by simp; omega
    go_wp2
    go_ret
    exact ⟨rfl, HB1.out⟩
  have d1 : decide ((60 : Int) < (n : Int)) = false := by simp; omega
  go_wp2_with fail
  refine (new_any w1).mono ?_
  rintro e w2 ⟨rfl, rfl⟩
  obtain ⟨g0, hg0⟩ : ∃ g, w1.heap.size = g := ⟨_, rfl⟩
  have HB := Lib.hid (HB1.out.alloc HB1.out.size (.cells #[.slice none 0 0, .int .u64 0, .int .i64 0] 48))
  have HS : Hid (St (w1.alloc (.cells #[.slice none 0 0, .int .u64 0, .int .i64 0] 48)) W.heap.size g0 none 0 [] 0 0 none 0 0 [] none 0 0 []) :=
    Lib.hid ⟨(by rw [← hg0]; exact new_wr w1 _), World.ownsRow_nil _ _ _ _, World.ownsRow_nil _ _ _ _, (fun k h _ => by cases h), (by rw [← hg0]; exact HB1.out.size), HB.out.size⟩
  have HR : Hid (Rl [] [] 0 0 []) := Lib.hid ⟨rfl, rfl, rfl, by simp⟩
  rw [hg0]
  generalize w1.alloc (.cells #[.slice none 0 0, .int .u64 0, .int .i64 0] 48) = w2 at *
  clear hg0 d1 HB1
  go_wp2
  go_loopw [3, 4, 5, 6] (fun wp al o i wr => ∃ (j g N : Nat) (A1 : Option Addr) (c1 : Nat) (D : List UInt8) (L : Nat) (Ab : Option Addr) (cb : Nat) (bs : List Bool) (Ao : Option Addr) (no co : Nat) (O : List UInt8), j ≤ n ∧ i = .int .i64 (j : Nat) ∧ wp = .pointer (some ⟨g, 0, none⟩) ∧ al = .slice Ab N cb ∧ o = .slice Ao no co ∧ Hid (St wr W.heap.size g A1 c1 D L N Ab N cb bs Ao no co O) ∧ Hid (Rl O D L N bs) ∧ N ≤ 1000 * j ∧ Hid (Below W.heap.size W wr)) (fun _ _ _ i _ => n - (intOf i).toNat)
  case atStart => exact ⟨0, g0, 0, none, 0, [], 0, none, 0, [], none, 0, 0, [], Nat.zero_le _, rfl, rfl, rfl, rfl, HS, HR, by omega, HB⟩
  case round =>
    obtain ⟨j, g, N, A1, c1, D, L, Ab, cb, bs, Ao, no, co, O, hj, rfl, rfl, rfl, rfl, HS, HR, hN, HB⟩ := hrel
    by_cases hlt : j < n
    · obtain ⟨tb, to, B, d, rfl, _, h0, h1, h2, h3, hBs⟩ := (HL.out.below HB.out).2 j hlt
      have hx := HQ.out (l.getD j (0, 0, 0, [])) (getD_mem l _ j (by rw [HLen.out]; exact hlt))
      have HC := Lib.hid ((HL.out).2 j hlt)
      generalize l.getD j (0, 0, 0, []) = q at h0 h1 h2 h3 hBs hx HC
      obtain ⟨K, k, x, xs⟩ := q
      simp only at h0 h1 h2 h3 hBs hx HC
      obtain ⟨tb', to', B', d', he, _, g0', g1', g2', g3', hBW⟩ := HC.out
      have HD : Hid (Bs W (fun k => k < W.heap.size) B xs.length xs) := Lib.hid (by
        injection he with he
        injection he with he1 he2
        subst he1 he2
        have e := ((HB.out.cell (by assumption)).trans g3').symm.trans h3
        injection e with e
        injection e with e1 e2 e3
        rw [← e1]
        exact hBW)
      obtain ⟨m, hm⟩ : ∃ m, xs.length = m := ⟨_, rfl⟩
      rw [hm] at h3 HD
      have HM := Lib.hid hm
      clear he g0' g1' g2' g3' hBW hBs HC hm
      have T1 := Lib.hid (Whole.new wr 30 #[.int .i64 K, .int .i64 k, .int .u32 (x : Int), .slice B m d] rfl)
      have HS := Lib.hid (HS.out.below ((Below.refl _ _).alloc (Nat.le_refl _) (.cells #[.int .i64 K, .int .i64 k, .int .u32 (x : Int), .slice B m d] 30)))
      have HB := Lib.hid (HB.out.alloc HB.out.size (.cells #[.int .i64 K, .int .i64 k, .int .u32 (x : Int), .slice B m d] 30))
      have hNb : N ≤ 100000 := by omega
      have hlen := HR.out.2.2.1
      have hDl : D.length ≤ 100000 := by omega
      clear hlen
      by_cases hm100 : 100 < m
      · have dm : decide ((100 : Int) < (m : Int)) = true := by simp; omega
        go_wp2
        go_ret
        exact ⟨rfl, HB.out⟩
      have dm : decide ((100 : Int) < (m : Int)) = false := by simp; omega
      have hpn := ptr_ne g
      by_cases K0 : K = 0
      · have f0 : (K == 0) = true := by simpa using K0
        clear K0
        by_cases hk : okN k
        · obtain ⟨k, rfl⟩ := Int.eq_ofNat_of_zero_le hk.1
          have hk32 : k ≤ 32 := by have := hk.2; omega
          have e1 : decide ((0 : Int) ≤ (k : Int)) = true := by simp
          have e2 : decide ((k : Int) ≤ 32) = true := by simp; omega
          clear hk
          go_wp2_with fail
          refine (put_any W.heap.size g A1 c1 D L N x k _ HS.out.wr hk32 hx (by omega) (by omega) HS.out.gb).mono ?_
          intro e w3 hp
          have T3 := Lib.hid (HS.out.keep hp T1.out)
          obtain ⟨rfl, A3, c3, HS3, hb3⟩ := HS.out.put hp
          have HR3 := Lib.hid (HR.out.put x k HS3.wr.1)
          have HS := Lib.hid HS3
          have HB := Lib.hid (HB.out.trans hb3)
          have x0 := T3.out.cell 0
          have x1 := T3.out.cell 1
          have x2 := T3.out.cell 2
          have x3 := T3.out.cell 3
          clear hp HS3 hb3 T1
          go_wp2_with fail
          refine (rput_any Ab N cb bs _ x k w3 (Lst.of_own HS.out.al) (by omega) (by omega) hx).mono ?_
          intro e w4 hp
          obtain ⟨Ab4, cb4, rfl, HS4, hb4⟩ := HS.out.all hp
          have HS := Lib.hid HS4
          have HB := Lib.hid (HB.out.trans hb4)
          clear hp HS4 hb4 x0 x1 x2 x3 T3
          go_wp2_with fail
          refine (len_any _ g _ _ _ _ _ _ HS.out.wr).mono ?_
          rintro e w9 ⟨rfl, rfl⟩
          go_wp2
          exact ⟨⟨j + 1, g, (N + k), _, _, _, _, _, _, _, _, _, _, _, by omega, by go_num, rfl, rfl, rfl, HS, HR3, by omega, HB⟩, by simp [intOf]; omega⟩
        · have e8 : Hid (¬ okN k) := Lib.hid hk
          have T3 := T1
          have x0 := T3.out.cell 0
          have x1 := T3.out.cell 1
          have x2 := T3.out.cell 2
          have x3 := T3.out.cell 3
          by_cases k0 : 0 ≤ k
          · have e1 : decide ((0 : Int) ≤ k) = true := by simpa using k0
            have e2 : decide (k ≤ 32) = false := by unfold okN at hk; simp; omega
            clear hk
            go_wp2_with fail
            refine (put_bad g x k _ (by have := e8.out; unfold okN at this; omega)).mono ?_
            rintro e w3 ⟨rfl, rfl⟩
            go_wp2_with fail
            refine (len_any _ g _ _ _ _ _ _ HS.out.wr).mono ?_
            rintro e w9 ⟨rfl, rfl⟩
            go_wp2
            exact ⟨⟨j + 1, g, N, _, _, _, _, _, _, _, _, _, _, _, by omega, by go_num, rfl, rfl, rfl, HS, HR, by omega, HB⟩, by simp [intOf]; omega⟩
          · have e1 : decide ((0 : Int) ≤ k) = false := by simpa using k0
            clear hk
            go_wp2_with fail
            refine (put_bad g x k _ (by omega)).mono ?_
            rintro e w3 ⟨rfl, rfl⟩
            go_wp2_with fail
            refine (len_any _ g _ _ _ _ _ _ HS.out.wr).mono ?_
            rintro e w9 ⟨rfl, rfl⟩
            go_wp2
            exact ⟨⟨j + 1, g, N, _, _, _, _, _, _, _, _, _, _, _, by omega, by go_num, rfl, rfl, rfl, HS, HR, by omega, HB⟩, by simp [intOf]; omega⟩
      have f0 : (K == 0) = false := by simpa using K0
      clear K0
      have x0 := T1.out.cell 0
      have x1 := T1.out.cell 1
      have x2 := T1.out.cell 2
      have x3 := T1.out.cell 3
      by_cases K1 : K = 1
      · have f1 : (K == 1) = true := by simpa using K1
        clear K1
        go_wp2_with fail
        refine (ralign_any Ab N cb bs _ _ (Lst.of_own HS.out.al) (by omega)).mono ?_
        intro e w3 hp
        obtain ⟨Ab3, cb3, rfl, HS3, hb3⟩ := HS.out.all hp
        have HS := Lib.hid HS3
        have HB := Lib.hid (HB.out.trans hb3)
        have HRA := Lib.hid HR.out.align
        have hM : (N + 7) / 8 * 8 = N + (8 - N % 8) % 8 := by omega
        have hal := align_any W.heap.size g A1 c1 D L N w3 HS3.wr (by omega) (by omega) HS3.gb
        rw [hM] at HRA hal
        obtain ⟨r, hr⟩ : ∃ r, (8 - N % 8) % 8 = r := ⟨_, rfl⟩
        rw [hr] at HS HRA hal ⊢
        have hr8 : r < 8 := by omega
        obtain ⟨M, hMM⟩ : ∃ M, N + r = M := ⟨_, rfl⟩
        rw [hMM] at HS HRA hal ⊢
        have e9 : (M : Int) - (N : Int) = (r : Nat) := by omega
        have HAL := Lib.hid hal
        have HMM := Lib.hid hMM
        clear hp HS3 hb3 hM hr hal hMM
        go_wp2_with fail
        refine HAL.out.mono ?_
        intro e w4 hp
        obtain ⟨rfl, A4, c4, HS4, hb4⟩ := HS.out.put hp
        have HS := Lib.hid HS4
        have HB := Lib.hid (HB.out.trans hb4)
        have hMb : M ≤ 1000 * j + 8 := by have := HMM.out; omega
        clear hp HS4 hb4 HAL x0 x1 x2 x3
        go_wp2_with fail
        refine (len_any _ g _ _ _ _ _ _ HS.out.wr).mono ?_
        rintro e w9 ⟨rfl, rfl⟩
        go_wp2
        exact ⟨⟨j + 1, g, M, _, _, _, _, _, _, _, _, _, _, _, by omega, by go_num, rfl, rfl, rfl, HS, HRA, by omega, HB⟩, by simp [intOf]; omega⟩
      have f1 : (K == 1) = false := by simpa using K1
      clear K1
      by_cases K2 : K = 2
      · have f2 : (K == 2) = true := by simpa using K2
        clear K2
        go_wp2_with fail
        refine (bytes_any W.heap.size g A1 c1 D L N B m d xs _ _ HS.out.wr (HD.out.below HB.out) (fun b hb => HS.out.wr.its HS.out.gb (Nat.le_refl _) b hb) (by omega) (by omega) (by omega) HS.out.gb HS.out.bb).mono ?_
        intro e w3 hp
        have T3 := Lib.hid (HS.out.keep hp T1.out)
        obtain ⟨rfl, A3, c3, HS3, hb3⟩ := HS.out.put hp
        have HS := Lib.hid HS3
        have HB := Lib.hid (HB.out.trans hb3)
        have hM : (N + 7) / 8 * 8 = N + (8 - N % 8) % 8 := by omega
        have hra := HR.out.align.bytes (by omega) xs
        rw [HM.out, hM] at hra
        rw [hM] at HS
        obtain ⟨r, hr⟩ : ∃ r, (8 - N % 8) % 8 = r := ⟨_, rfl⟩
        have hal := fun w' (hb : Below w3.drew.heap.size w3.drew w') => ralign_any Ab N cb bs _ w' (Lst.below (show Lst w3.drew _ 1 Ab N (bs.map bo) from Lst.of_own HS.out.al) hb) (by omega)
        rw [hr] at HS hra hal
        have hr8 : r < 8 := by omega
        have HRA := Lib.hid hra
        have F10 := Lib.hid hal
        have F13 := Lib.hid (fun w' (hb : Below w3.drew.heap.size w3.drew w') => bitsof_any B m d xs _ w' ((HD.out.below HB.out.drew).below hb) (by omega))
        have x3 := T3.out.cell 3
        have T3 := Lib.hid (show Whole w3.drew wr.heap.size 30 _ from T3.out)
        have HBC := Lib.hid (Below.refl w3.drew.heap.size w3.drew)
        have HSd := Lib.hid (HS.out.below ((Below.refl w3.heap.size w3).drew))
        obtain ⟨i0, hi, hz0, hz1, hz2⟩ := info_parts info4
        clear hp HS3 hb3 hra hal hM hr x0 x1 x2
        go_wp2
        go_region_law (first
          | (refine step_append_list rfl (.tmp 78) (.tmp 81) 26 rfl w3.drew.heap.size 4 i0 (.bool false) 1 1 Try.underlying26 hi hz0 hz1 hz2 rfl (by decide) _ (N + r) _ rfl HO10.out _ _ (8 * m) _ _ rfl (Lst.of_own HO13.out) oneCell_bools (by unfold maxLen; omega) (by omega) HBC.out.size ?_
             intro A20 c20 w20 ho20 hg20)
          | (go_simp
             go_at_call 10
             refine (F10.out _ HBC.out).mono ?_
             rintro e wx ⟨A10, c10, rfl, ho10, hb10⟩
             have HO10 := Lib.hid (own_mono ho10 HBC.out.size)
             try have HO13 := Lib.hid (own_below HO13.out hb10)
             have HBC := Lib.hid (HBC.out.trans (hb10.mono HBC.out.size))
             have x3 := (T3.out.below' HBC.out).cell 3
             clear ho10 hb10)
          | (go_simp
             go_at_call 13
             refine (F13.out _ HBC.out).mono ?_
             rintro e wx ⟨A13, c13, rfl, ho13, hb13⟩
             have HO13 := Lib.hid (own_mono ho13 HBC.out.size)
             try have HO10 := Lib.hid (own_below HO10.out hb13)
             have HBC := Lib.hid (HBC.out.trans (hb13.mono HBC.out.size))
             have x3 := (T3.out.below' HBC.out).cell 3
             clear ho13 hb13))
        all_goals
          have HB20 := Lib.hid (HBC.out.grown hg20 HBC.out.size (fun b e => (HO10.out.lt b e).1))
          have HB20 : Hid (Below w3.heap.size w3 w20) := Lib.hid (((Below.refl w3.heap.size w3).drew).trans HB20.out)
          have HS20 := Lib.hid (HS.out.below HB20.out)
          have HS := Lib.hid (show St w20 W.heap.size g A3 c3 _ 0 (N + r + 8 * m) A20 (N + r + 8 * m) c20 (bs ++ List.replicate r false ++ bitsB xs) Ao no co O from ⟨HS20.out.wr, own_mono (by rw [List.map_append]; exact ho20) HS.out.bb, HS20.out.out, HS20.out.ne, HS20.out.gb, HS20.out.bb⟩)
          have HB := Lib.hid (HB.out.trans (HB20.out.mono HB.out.size))
          clear hg20 ho20 HB20 HS20 HBC x3
          go_wp2_with fail
          refine (len_any _ g _ _ _ _ _ _ HS.out.wr).mono ?_
          rintro e w9 ⟨rfl, rfl⟩
          go_wp2
          exact ⟨⟨j + 1, g, (N + r + 8 * m), _, _, _, _, _, _, _, _, _, _, _, by omega, by go_num, rfl, rfl, rfl, HS, HRA, by omega, HB⟩, by simp [intOf]; omega⟩
      have f2 : (K == 2) = false := by simpa using K2
      clear K2
      by_cases K3 : K = 3
      · have f3 : (K == 3) = true := by simpa using K3
        clear K3
        obtain ⟨i5, hi5, hz5, hy5, hx5⟩ := info_parts info5
        go_wp2_with fail
        refine (take_any W.heap.size g A1 c1 D L N _ HS.out.wr).mono ?_
        intro e w3 hp
        obtain ⟨rfl, HS3, ho3, hb3⟩ := HS.out.took hp
        have HS := Lib.hid HS3
        have HB := Lib.hid (HB.out.trans hb3)
        have HO3 := Lib.hid ho3
        have HRT := Lib.hid HR.out.take
        have hol : O.length = no := by have := (Bs.of_own HS3.out).len; exact this
        have hsum := HR.out.2.2.1
        obtain ⟨kk, hkk⟩ : ∃ kk, D.length = kk := ⟨_, rfl⟩
        rw [hkk] at HO3 hDl hsum ⊢
        rw [hol] at hsum
        clear hp HS3 ho3 hb3 x0 x1 x2 x3 hol
        go_wp2_with (at_builtin; refine wpList_append_list _ rfl (.tmp 85) (.tmp 87) 27 rfl W.heap.size 5 i5 (.int .u8 0) 1 1 Try.underlying27 hi5 hz5 hy5 hx5 rfl (by decide) (.slice Ao no co) no _ rfl HS.out.out _ A1 kk c1 _ rfl (Lst.of_own HO3.out) oneCell_bytes (by unfold maxLen; omega) (by omega) HS.out.bb ?_)
        intro A20 c20 w20 ho20 hg20 hat20
        obtain ⟨HS20, hb20⟩ := HS.out.more (O' := O ++ D) (by rw [List.map_append]; exact ho20) hg20
        have HS := Lib.hid HS20
        have HB := Lib.hid (HB.out.trans hb20)
        obtain ⟨E, hE⟩ : ∃ E, N / 8 = E := ⟨_, rfl⟩
        rw [hE] at hsum
        obtain ⟨P, hP⟩ : ∃ P, E * 8 = P := ⟨_, rfl⟩
        rw [hE] at HS ⊢
        have hcap := own_capn HS.out.al
        have q1 : (N : Int) / 8 = (E : Nat) := by omega
        have q2 : (N : Int).tdiv 8 = (E : Nat) := by rw [Int.tdiv_eq_ediv_of_nonneg (by omega)]; exact q1
        have q3 : (E : Int) * 8 = (P : Nat) := by omega
        have q4 : IntKind.i64.wrap (E : Int) = E := IntWalk.i64_in _ (by omega)
        have q5 : IntKind.i64.wrap (P : Int) = P := IntWalk.i64_in _ (by omega)
        have q6 : (P : Int) ≤ (cb : Int) := by omega
        have k1 := fun mm => str_of (w := w20.over mm) c20 ((Bs.of_own HS.out.out).below (World.over_below w20 mm))
        have FP := Lib.hid (fun w' (hb : Below w20.heap.size w20 w') => by
          have h := pack_any Ab P cb (bs.take P) _ w' (bo_take (Lst.below (Lst.of_own HS.out.al) hb) (k := P) (by omega)) (by omega) (by omega)
          have hbl : bs.length = N := HR.out.1
          unfold Packd at h
          rw [show ((bs.take P).length + 7) / 8 = E by simp; omega] at h
          have ho := HRT.out.outs
          rw [hE, hP] at ho
          rw [ho] at h
          exact h)
        clear ho20 hg20 hat20 HS20 hb20 hE hP HO3
        go_wp2
        refine wp_region_free (by kernel_rfl) (by kernel_rfl) (by kernel_rfl) ?_
        iterate 8 (first | (refine free_skip rfl rfl ?_; intro K hK; go_big_quiet_op; go_big_quiet_on) | (refine free_hard rfl rfl ?_; intro K hK; go_big_quiet_op; go_big_quiet_on))
        refine free_soft (ι := Option Addr × Nat) (fun i => .slice i.1 (E) i.2) (fun i w' => Bs w' (fun b => w20.heap.size ≤ b) i.1 (E) (O ++ D)) rfl rfl rfl (fun _ => firm_bs) (fun w' hw' => ?_) (fun i => ?_)
        · have hb := hw'.1.below
          have HW := Lib.hid hw'
          clear hw'
          go_simp
          refine (FP.out w' hb).mono ?_
          rintro e w2 ⟨A', c', rfl, ho, hb2⟩
          exact ⟨hb2, (A', c'), rfl, (Bs.of_own ho).mono fun b h => by have := hb.size; omega⟩
        obtain ⟨A25, c25⟩ := i
        dsimp only
        intro K hK
        go_big_quiet_op
        go_big_quiet_on
        refine free_fact (.string ⟨(O ++ D).toArray⟩) rfl rfl rfl (fun w' hw' => ?_) ?_
        · have hf := str_of c25 (hw'.2 8 (by kernel_rfl)).1
          clear hw'
          go_simp
        intro K hK
        go_big_quiet_op
        go_big_quiet_on
        iterate 1 (first | (refine free_skip rfl rfl ?_; intro K hK; go_big_quiet_op; go_big_quiet_on) | (refine free_hard rfl rfl ?_; intro K hK; go_big_quiet_op; go_big_quiet_on))
        refine free_nil ?_
        intro w30 hb30 hk30
        have HS := Lib.hid (HS.out.below hb30)
        have HB := Lib.hid (HB.out.trans (hb30.mono HB.out.size))
        clear hb30 hk30 k1 FP q1 q2 q3 q4 q5 q6
        go_wp2_with fail
        refine (len_any _ g _ _ _ _ _ _ HS.out.wr).mono ?_
        rintro e w9 ⟨rfl, rfl⟩
        go_wp2
        exact ⟨⟨j + 1, g, N, _, _, _, _, _, _, _, _, _, _, _, by omega, by go_num, rfl, rfl, rfl, HS, HRT, by omega, HB⟩, by simp [intOf]; omega⟩
      have f3 : (K == 3) = false := by simpa using K3
      clear K3
      by_cases K4 : K = 4
      · have f4 : (K == 4) = true := by simpa using K4
        clear K4
        go_wp2_with fail
        refine (wclone_any W.heap.size g A1 c1 D L N _ HS.out.wr (by omega) HS.out.bb).mono ?_
        intro e w3 hp
        obtain ⟨g3, A3, c3, rfl, HSa, HSb, hd, hb3⟩ := HS.out.clone hp
        have HSa := Lib.hid HSa
        have HSb := Lib.hid HSb
        have HD3 := Lib.hid hd
        have HB := Lib.hid (HB.out.trans hb3)
        clear hp hb3 hd x0 x1 x2 x3
        go_wp2_with fail
        refine (put_any W.heap.size g A1 c1 D L N 255 9 _ HSa.out.wr (by omega) (by omega) (by omega) (by omega) HSa.out.gb).mono ?_
        intro e w4 hp
        obtain ⟨rfl, HS4, hb4⟩ := HSa.out.spoilt HSb.out HD3.out hp
        have HS := Lib.hid HS4
        have HB := Lib.hid (HB.out.trans hb4)
        have hpn := ptr_ne g3
        clear hp HS4 hb4 HSa HSb HD3
        go_wp2_with fail
        refine (len_any _ g3 _ _ _ _ _ _ HS.out.wr).mono ?_
        rintro e w9 ⟨rfl, rfl⟩
        go_wp2
        exact ⟨⟨j + 1, g3, N, _, _, _, _, _, _, _, _, _, _, _, by omega, by go_num, rfl, rfl, rfl, HS, HR, by omega, HB⟩, by simp [intOf]; omega⟩
      have f4 : (K == 4) = false := by simpa using K4
      clear K4 x0 x1 x2 x3
      go_wp2_with fail
      refine (len_any _ g _ _ _ _ _ _ HS.out.wr).mono ?_
      rintro e w9 ⟨rfl, rfl⟩
      go_wp2
      exact ⟨⟨j + 1, g, N, _, _, _, _, _, _, _, _, _, _, _, by omega, by go_num, rfl, rfl, rfl, HS, HR, by omega, HB⟩, by simp [intOf]; omega⟩
    · obtain rfl : j = n := by omega
      obtain ⟨i5, hi5, hz5, hy5, hx5⟩ := info_parts info5
      have hNb : N ≤ 100000 := by omega
      have hDl : D.length ≤ 100000 := by have := HR.out.2.2.1; omega
      have hfin := finish_any W.heap.size g A1 c1 D L N wr HS.out.wr (by omega) (by omega) HS.out.gb
      have hRF := HR.out.align.take.fin
      obtain ⟨D1, hD1⟩ : ∃ D1, D ++ leB L ((N % 8 + 7) / 8) = D1 := ⟨_, rfl⟩
      rw [hD1] at hfin hRF
      have hD1l : D1.length ≤ 100002 := by rw [← hD1, List.length_append, leB_len]; omega
      obtain ⟨hf1, hf2⟩ := hRF
      rw [bnum_append, bnum_falses, Nat.mul_zero, Nat.add_zero] at hf1
      have hol : O.length = no := by have := (Bs.of_own HS.out.out).len; exact this
      have HF1 := Lib.hid hf1
      have HF2 := Lib.hid hf2
      have HFI := Lib.hid hfin
      have HBN := Lib.hid HR.out.1
      obtain ⟨kk, hkk⟩ : ∃ kk, D1.length = kk := ⟨_, rfl⟩
      have HKK := Lib.hid hkk
      have HOL := Lib.hid hol
      have hno : no ≤ 100000 := by have := HR.out.2.2.1; omega
      clear hf1 hf2 hfin hD1 hol
      go_wp2_with fail
      refine HFI.out.mono ?_
      intro e w3 hp
      obtain ⟨A3, c3, rfl, HS3, ho3, hb3⟩ := HS.out.fin hp
      have HS := Lib.hid HS3
      have HB := Lib.hid (HB.out.trans hb3)
      have HO3 := Lib.hid ho3
      rw [hkk] at HO3 hD1l ⊢
      clear hp HS3 ho3 hb3 HFI hkk
      go_wp2_with (at_builtin; refine wpList_append_list _ rfl (.tmp 116) (.tmp 118) 27 rfl W.heap.size 5 i5 (.int .u8 0) 1 1 Try.underlying27 hi5 hz5 hy5 hx5 rfl (by decide) (.slice Ao no co) no _ rfl HS.out.out _ A3 kk c3 _ rfl (Lst.of_own HO3.out) oneCell_bytes (by unfold maxLen; omega) (by omega) HS.out.bb ?_)
      intro A20 c20 w20 ho20 hg20 hat20
      obtain ⟨HS20, hb20⟩ := HS.out.more (O' := O ++ D1) (by rw [List.map_append]; exact ho20) hg20
      have HS := Lib.hid (HS20.below ((Below.refl w20.heap.size w20).drew))
      have HB : Hid (Below W.heap.size W w20.drew) := Lib.hid ((HB.out.trans hb20).drew)
      obtain ⟨TN, hTN⟩ : ∃ TN, (O ++ D1).length = TN := ⟨_, rfl⟩
      have HTN := Lib.hid hTN
      clear hTN
      have hcap := own_capn HS.out.al
      have FP := Lib.hid (fun w' (hb : Below w20.drew.heap.size w20.drew w') => by
        have h := pack_any Ab N cb bs _ w' (Lst.below (Lst.of_own HS.out.al) hb) hcap (by omega)
        unfold Packd at h
        rw [HF1.out] at h
        have e1 : (bs.length + 7) / 8 = (O ++ D1).length := by rw [HF2.out, HBN.out]; omega
        rw [e1, leB_num, HTN.out] at h
        exact h)
      have k1 := str_of (w := w20.drew) c20 (Bs.of_own HS.out.out)
      have HBC := Lib.hid (Below.refl w20.drew.heap.size w20.drew)
      clear ho20 hg20 hat20 HS20 hb20 HO3
      go_wp2
      go_region_law (first
        | (go_simp
           go_at_call 15
           refine (FP.out _ HBC.out).mono ?_
           rintro e wx ⟨A25, c25, rfl, ho25, hb25⟩
           have k2 := str_of c25 (Bs.of_own ho25)
           have HBC := Lib.hid (HBC.out.trans (hb25.mono HBC.out.size))
           have k1 := str_of c20 ((Bs.of_own HS.out.out).below HBC.out)
           clear ho25 hb25)
        | (go_simp
           go_at_call 14
           refine (take_any W.heap.size g none 0 [] 0 _ _ (HS.out.below HBC.out).wr).mono ?_
           intro e wy hp
           obtain ⟨rfl, _, _, hb30⟩ := (HS.out.below HBC.out).took hp
           have HBF := Lib.hid ((HB.out.trans (HBC.out.mono HB.out.size)).trans hb30)
           clear hp hb30))
      all_goals
        go_wp2
        go_ret
        exact ⟨rfl, HBF.out⟩
end Go.Proofs.Ythpbiakjkmhfeaa
