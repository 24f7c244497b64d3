/- TrapFirst. -/
import Derived.Test.YtmmckhkiclifjaaW17
import Derived.Test.YtmmckhkiclifjaaW8
namespace Go.Proofs.Ytmmckhkiclifjaa
open Go.RowKit

theorem FB_spec (l : List (Int × Int)) : (FB l < l.length → bad (l.getD (FB l) (0, 0)) = true ∧ FC l = badCode (l.getD (FB l) (0, 0))) ∧ (FB l = l.length → FC l = 0) := by
  induction l with
  | nil => exact ⟨fun h => absurd h (by simp [FB]), fun _ => rfl⟩
  | cons p r ih =>
    cases hb : bad p with
    | true => simp [FB, FC, hb]
    | false =>
      simp only [FB, FC, hb, if_false, Bool.false_eq_true, List.length_cons]
      exact ⟨fun h => by simpa using ih.1 (by omega), fun h => ih.2 (by omega)⟩
theorem info47 : (Try.prog.info? 47).map (fun i => (i.zero, i.size, i.bytes)) = some (some .nilFunc, 1, 8) := by kernel_rfl
/-- The functions that are made: each over a block of its own. -/
def Made (wr : World) (g B j : Nat) (A : Option Addr) (c : Nat) (bs : List Nat) (l : List (Int × Int)) : Prop :=
  bs.length = j ∧ wr.ownsRow B 47 1 (.slice A j c) j (bs.map (fv g)) ∧ Whole wr g 3 #[.int .i64 0] ∧
    ∀ i, i < j → Whole wr (bs.getD i 0) 45 #[.int .i64 (l.getD i (0, 0)).1, .int .i64 (l.getD i (0, 0)).2] ∧ bs.getD i 0 ≠ g ∧ some (bs.getD i 0) ≠ (Value.slice A j c).ownBlock
theorem Made.start (w : World) (g B : Nat) (l : List (Int × Int)) (h : Whole w g 3 #[.int .i64 0]) : Made w g B 0 none 0 [] l := ⟨rfl, World.ownsRow_nil _ _ _ _, h, fun i hi => absurd hi (by omega)⟩
theorem Made.next {wr x3 : World} {g B j c c3 : Nat} {A A3 : Option Addr} {bs : List Nat} {l : List (Int × Int)} (h : Made wr g B j A c bs l) (hg : g < B) (o : Obj)
    (ho : x3.ownsRow B 47 1 (.slice A3 (j + 1) c3) (j + 1) (bs.map (fv g) ++ [fv g wr.heap.size]))
    (hgr : ((wr.alloc (.cells #[.int .i64 (l.getD j (0, 0)).1, .int .i64 (l.getD j (0, 0)).2] 45)).alloc o).grownBy x3 (Value.slice A j c).ownBlock)
    (hat : (Value.slice A3 (j + 1) c3).ownBlock = (Value.slice A j c).ownBlock ∨ (Value.slice A3 (j + 1) c3).ownBlock = some (wr.heap.size + 1 + 1)) :
    Made x3 g B (j + 1) A3 c3 (bs ++ [wr.heap.size]) l := by
  obtain ⟨h1, h2, h3, h4⟩ := h
  have hrow := h2.lt
  refine ⟨by simp [h1], by simpa using ho, (((h3.alloc _).alloc o).grown hgr fun e => ?_), fun i hi => ?_⟩
  · have := (hrow g e.symm).1
    omega
  by_cases hij : i < j
  · obtain ⟨k1, k2, k3⟩ := h4 i hij
    rw [show (bs ++ [wr.heap.size]).getD i 0 = bs.getD i 0 by simp [List.getD_eq_getElem?_getD, List.getElem?_append_left (show i < bs.length by omega)]]
    refine ⟨((k1.alloc _).alloc o).grown hgr k3, k2, ?_⟩
    rcases hat with e | e
    · rw [e]; exact k3
    · rw [e]
      intro he
      have k4 := k1.lt
      generalize bs.getD i 0 = bi at he k4
      injection he with he
      omega
  · obtain rfl : i = j := by omega
    rw [show (bs ++ [wr.heap.size]).getD i 0 = wr.heap.size by simp [List.getD_eq_getElem?_getD, ← h1]]
    have hne : some wr.heap.size ≠ (Value.slice A i c).ownBlock := fun e => by have := (hrow _ e.symm).2; omega
    refine ⟨((Whole.new wr 45 _ rfl).alloc o).grown hgr hne, by have := h3.lt; omega, ?_⟩
    rcases hat with e | e
    · rw [e]; exact hne
    · rw [e]
      intro he
      injection he with he
      omega
/-- What First hands back. -/
def FirstQ (w : World) (g q : Nat) (e0 m : Int) (e : Ending) (w' : World) : Prop := e = .returned (.tuple #[.int .i64 (q : Int), .int .i64 e0]) ∧ Cnt w g m w'
theorem one_fv {g b : Nat} : ∀ u ∈ [fv g b], u.oneCell' = true := by
  intro u hu
  simp at hu
  subst hu
  rfl
/-- Whether a step's function has an error, as the law asks it. -/
theorem bad_case (p : Int × Int) (P : Prop) (h1 : p.1 = 1 → bad p = true → P) (h2 : (p.1 == 1) = false → p.1 = 2 → (bits .and .i64 p.2 63 != 0) = true → bad p = true → P)
    (h3 : (p.1 == 1) = false → p.1 = 2 → (bits .and .i64 p.2 63 != 0) = false → bad p = false → P) (h4 : (p.1 == 1) = false → (p.1 == 2) = false → bad p = false → P) : P := by
  by_cases k1 : p.1 = 1
  · exact h1 k1 (by simp [bad, k1])
  have e1 : (p.1 == 1) = false := by simpa using k1
  by_cases k2 : p.1 = 2
  · cases k3 : (bits .and .i64 p.2 63 != 0) with
    | true => exact h2 e1 k2 k3 (by simp [bad, k2, and6]; simpa using k3)
    | false => exact h3 e1 k2 k3 (by simp [bad, k2, and6]; simpa using k3)
  · exact h4 e1 (by simpa using k2) (by simp [bad, k1, k2])
set_option maxRecDepth 100000 in
set_option maxHeartbeats 4000000 in
theorem first_law (A : Option Addr) (n c : Nat) (l : List (Int × Int)) (W : World) (hL : Ps W (fun b => b < W.heap.size) A n l) : Calls Try.prog 5 #[.slice A n c] W fun e w' => e = .returned (.bool true) ∧ Below W.heap.size W w' := by
  have hmf : ∀ (fn : Fn) (first cap : Array Value) (w : World), (Instr.makeFunc fn first cap).run Try.prog w = .ok (.func fn first cap) w := fun _ _ _ _ => rfl
  obtain ⟨i0, hi, hz0, hz1, hz2⟩ := info_parts info47
  have hlen := hL.len
  have HL := Lib.hid hL
  clear hL
  go_enter Try.func5, Try.ntmps5
  go_wp2_with fail
  refine (awake_any W).mono ?_
  rintro x w1 ⟨rfl, hb1⟩
  have HB1 := Lib.hid hb1
  clear hb1
  by_cases hn : n ≤ 50
  · go_wp2_with fail
    obtain ⟨w5, e5⟩ : ∃ w5, w1.alloc (.cells #[.int .i64 0] 3) = w5 := ⟨_, rfl⟩
    have HB5 := Lib.hid (show Below W.heap.size W w5 from e5 ▸ HB1.out.alloc HB1.out.size _)
    have HG := Lib.hid (show Whole w5 w1.heap.size 3 #[.int .i64 0] from e5 ▸ Whole.new w1 3 _ rfl)
    have hgW := HB1.out.size
    rw [e5]
    clear e5 HB1
    generalize w1.heap.size = g at HG hgW ⊢
    go_loopw [5, 7] (fun want i wr => ∃ (j q : Nat) (i0 : Int), j ≤ n ∧ q ≤ n ∧ i0 = (j : Int) - 1 ∧ i = .int .i64 i0 ∧ want = .int .i64 q ∧ Hid (q = j + FB (l.drop j)) ∧ wr = w5) (fun _ i _ => (intOf i + 1).toNat)
    case atStart => exact ⟨n, n, (n : Int) - 1, Nat.le_refl _, Nat.le_refl _, rfl, rfl, rfl, Lib.hid (by rw [List.drop_eq_nil_of_le (by omega)]; rfl), rfl⟩
    case round =>
      obtain ⟨j, q, i1, hj, hqn, hi1, rfl, rfl, hq, rfl⟩ := hrel
      rcases j with _ | k
      · obtain rfl : i1 = -1 := by omega
        have HQ := Lib.hid (show FB l = q by have := hq.out; simp at this; exact this.symm)
        clear hq hi1
        go_wp2_with fail
        go_loopw [4, 8] (fun o i wr2 => ∃ (A2 : Option Addr) (c2 j : Nat) (bs : List Nat), j ≤ n ∧ o = .slice A2 j c2 ∧ i = .int .i64 j ∧ Hid (Made wr2 g (g + 1) j A2 c2 bs l) ∧ Hid (Below W.heap.size W wr2)) (fun _ i _ => n - (intOf i).toNat)
        case atStart => exact ⟨none, 0, 0, [], Nat.zero_le _, rfl, rfl, Made.start _ _ _ _ HG.out, HB5.out⟩
        case round =>
          obtain ⟨A2, c2, j, bs, hj, rfl, rfl, hM, hB⟩ := hrel
          by_cases hlt : j < n
          · obtain ⟨b, off, rfl, _, _, hc0, hc1⟩ := (HL.out.below hB.out).at_ hlt
            obtain ⟨p, hp⟩ : ∃ p, l.getD j (0, 0) = p := ⟨_, rfl⟩
            rw [hp] at hc0 hc1
            have HP := Lib.hid hp
            clear hp
            have hgl := hM.out.2.2.1.lt
            go_wp2_with (at_builtin; refine wpList_append_list _ rfl (.tmp 60) (.tmp 62) 43 rfl (g + 1) 47 i0 .nilFunc 1 8 Try.underlying43 hi hz0 hz1 hz2 rfl (by decide) _ j _ rfl ((hM.out.2.1.alloc _).alloc _) _ (some ⟨wr.heap.size + 1, 0, none⟩) 1 1 [fv g wr.heap.size] rfl (Lst.new _ 47 #[fv g wr.heap.size] 1 rfl (by simp)) one_fv (by unfold maxLen; omega) (by omega) (by simp; omega) ?_)
            intro A3 c3 x3 hown3 hgrow3 hat3
            rw [← HP.out] at hgrow3
            have HM3 := Lib.hid (Made.next hM.out (by omega) _ hown3 hgrow3 hat3)
            have HB3 := Lib.hid (((hB.out.alloc hB.out.size _).alloc (by have := hB.out.size; simp; omega) _).grown hgrow3 (by have := hB.out.size; simp; omega) (fun g' e => by have := (hM.out.2.1.lt g' e).1; omega))
            clear hown3 hgrow3 hat3 HP hM hB hc0 hc1
            go_wp2
            exact ⟨⟨A3, c3, j + 1, _, by omega, rfl, by go_num, HM3, HB3⟩, by simp [intOf] <;> omega⟩
          · obtain rfl : j = n := by omega
            have hgl := hM.out.2.2.1.lt
            have hF := first_any A2 j c2 g bs l wr ((Lst.of_own hM.out.2.1).mono fun b (hb : g + 1 ≤ b) => by omega) hlen (fun i hi => ⟨(hM.out.2.2.2 i (by omega)).1, (hM.out.2.2.2 i (by omega)).2.1⟩) hM.out.2.2.1 (by omega)
            obtain ⟨s1, s2⟩ := FB_spec l
            rw [HQ.out, hlen] at s1 s2
            have hF2 : ∀ (e0 m : Int), FC l = e0 → ((min (q + 1) j : Nat) : Int) = m → Calls Try.prog 23 #[.slice A2 j c2] wr (FirstQ wr g q e0 m) := fun e0 m h1 h2 => hF.mono fun e w' ⟨k1, k2⟩ => ⟨by rw [k1, HQ.out, h1], by rw [HQ.out, h2] at k2; exact k2⟩
            have HB := Lib.hid hB.out
            clear hF hM hB
            by_cases hqj : q < j
            · obtain ⟨s3, s4⟩ := s1 hqj
              obtain ⟨b, off, rfl, _, _, hc0, hc1⟩ := (HL.out.below HB.out).at_ hqj
              generalize l.getD q (0, 0) = p at hc0 hc1 s3 s4
              by_cases hp : p.1 = 1
              · have HF := Lib.hid (hF2 (1 + bits .and .i64 p.2 63) ((q : Int) + 1) (by rw [s4, badCode, if_pos hp]; rfl) (by omega))
                rw [hp] at hc0
                clear s1 s2 s3 s4 hF2 hp HQ
                go_wp2_with (go_at_call 20; refine (code_any p.2 _).mono ?_; rintro e w1 ⟨rfl, rfl⟩)
                refine HF.out.mono ?_
                rintro e w6 ⟨rfl, hC⟩
                have HB6 := Lib.hid (hC.1.below HB.out hgW (Nat.le_trans hgW (Nat.le_of_lt hgl)))
                have c7 := hC.2.cell 0
                have f7 := hC.2.free 0
                clear hC HF HB hc0 hc1
                go_wp2
                go_ret
                exact ⟨rfl, HB6.out⟩
              · have hp2 : p.1 = 2 := by
                  simp [bad, hp] at s3
                  exact s3.1
                have HF := Lib.hid (hF2 (bits .and .i64 p.2 63) ((q : Int) + 1) (by rw [s4, badCode, if_neg hp, if_pos hp2]; rfl) (by omega))
                rw [hp2] at hc0
                clear s1 s2 s3 s4 hF2 hp hp2 HQ
                go_wp2_with fail
                refine HF.out.mono ?_
                rintro e w6 ⟨rfl, hC⟩
                have HB6 := Lib.hid (hC.1.below HB.out hgW (Nat.le_trans hgW (Nat.le_of_lt hgl)))
                have c7 := hC.2.cell 0
                have f7 := hC.2.free 0
                clear hC HF HB hc0 hc1
                go_wp2
                go_ret
                exact ⟨rfl, HB6.out⟩
            · obtain rfl : q = j := by omega
              have HF := Lib.hid (hF2 0 (q : Int) (s2 rfl) (by omega))
              have hc0 := trivial
              have hc1 := trivial
              clear s1 s2 hF2 HQ
              go_wp2_with fail
              refine HF.out.mono ?_
              rintro e w6 ⟨rfl, hC⟩
              have HB6 := Lib.hid (hC.1.below HB.out hgW (Nat.le_trans hgW (Nat.le_of_lt hgl)))
              have c7 := hC.2.cell 0
              have f7 := hC.2.free 0
              clear hC HF HB hc0 hc1
              go_wp2
              go_ret
              exact ⟨rfl, HB6.out⟩
      · obtain rfl : i1 = (k : Int) := by omega
        obtain ⟨b, off, rfl, _, _, hc0, hc1⟩ := (HL.out.below HB5.out).at_ (show k < n by omega)
        have hq' := hq.out
        have hd := drop_at (l := l) (j := k) (by omega)
        generalize l.getD k (0, 0) = p at hc0 hc1 hd
        have hk1 : FB (l.drop k) = if bad p then 0 else FB (l.drop (k + 1)) + 1 := by rw [hd]; rfl
        have hfl := FB_le (l.drop (k + 1))
        rw [List.length_drop, hlen] at hfl
        clear hd hq hi1
        refine bad_case p _ (fun h1 hb => ?_) (fun h1 h2 h3 hb => ?_) (fun h1 h2 h3 hb => ?_) (fun h1 h2 hb => ?_)
        · rw [hb, if_pos rfl] at hk1
          have HQ := Lib.hid (show k = k + FB (l.drop k) by omega)
          rw [h1] at hc0
          clear hk1 hq' hb h1
          go_wp2
          exact ⟨⟨k, k, (k : Int) - 1, by omega, by omega, rfl, rfl, rfl, HQ, trivial⟩, by simp [intOf] <;> omega⟩
        · rw [hb, if_pos rfl] at hk1
          have HQ := Lib.hid (show k = k + FB (l.drop k) by omega)
          rw [h2] at hc0
          clear hk1 hq' hb h1 h2
          go_wp2
          exact ⟨⟨k, k, (k : Int) - 1, by omega, by omega, rfl, rfl, rfl, HQ, trivial⟩, by simp [intOf] <;> omega⟩
        · rw [hb, if_neg (by decide)] at hk1
          have HQ := Lib.hid (show q = k + FB (l.drop k) by omega)
          rw [h2] at hc0
          clear hk1 hq' hb h1 h2
          go_wp2
          exact ⟨⟨k, q, (k : Int) - 1, by omega, by omega, rfl, rfl, rfl, HQ, trivial⟩, by simp [intOf] <;> omega⟩
        · rw [hb, if_neg (by decide)] at hk1
          have HQ := Lib.hid (show q = k + FB (l.drop k) by omega)
          clear hk1 hq' hb
          go_wp2
          exact ⟨⟨k, q, (k : Int) - 1, by omega, by omega, rfl, rfl, rfl, HQ, trivial⟩, by simp [intOf] <;> omega⟩
  · go_wp2
    go_ret
    exact ⟨rfl, HB1.out⟩
end Go.Proofs.Ytmmckhkiclifjaa
