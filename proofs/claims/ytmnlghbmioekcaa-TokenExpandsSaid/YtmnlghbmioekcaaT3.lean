/- Expand. -/
import Derived.Test.YtmnlghbmioekcaaT2
namespace Go.Proofs.Ytmnlghbmioekcaa
open Go.RowKit

def Exd (w : World) (n : Nat) (r : Int × List UInt8) (e : Ending) (w' : World) : Prop :=
  ∃ A' c' k, e = .returned (.tuple #[.slice A' k c', .int .i64 r.1]) ∧ k ≤ c' ∧ Bs w' (fun b => w.heap.size ≤ b) A' k (r.2.drop n) ∧ Below w.heap.size w w'
theorem drop_cons (l : List Tok) (j : Nat) (h : j < l.length) : l.drop j = l.getD j (0, 0, 0) :: l.drop (j + 1) := by
  rw [List.drop_eq_getElem_cons h, List.getD_eq_getElem?_getD, List.getElem?_eq_getElem h]
  rfl
theorem own_some {w : World} {base n c : Nat} {A : Option Addr} {xs : List Value} (h : w.ownsRow base 5 1 (.slice A n c) n xs) (hn : 0 < n) : ∃ g, A = some ⟨g, 0, none⟩ ∧ n ≤ c := by
  rcases h.2 with ⟨h1, h2⟩ | ⟨g, cap, cur, h1, _, _, h2, _⟩
  · omega
  · injection h1 with h1 _ h3
    exact ⟨g, h1, by omega⟩
theorem own_cap {w : World} {base n c : Nat} {A : Option Addr} {xs : List Value} (h : w.ownsRow base 5 1 (.slice A n c) n xs) : n ≤ c := by
  rcases h.2 with ⟨h1, h2⟩ | ⟨g, cap, cur, h1, _, _, h2, _⟩
  · omega
  · injection h1 with h1 _ h3
    omega
theorem own_ne31 {w : World} {base g n c : Nat} {A : Option Addr} {xs : List Value} {cs : Array Value} (hg : Whole w g 31 cs) (h : w.ownsRow base 5 1 (.slice A n c) n xs) : some g ≠ (Value.slice A n c).ownBlock := by
  rcases h.2 with ⟨h1, _⟩ | ⟨b, cap, cur, h1, _, h2, _⟩
  · injection h1 with h1
    subst h1
    intro e
    cases e
  · injection h1 with h1
    subst h1
    intro e
    injection e with e
    subst e
    unfold Whole at hg
    rw [hg] at h2
    injection h2 with h2
    injection h2 with _ h2
    cases h2
theorem bs_add {w : World} {S : Nat → Prop} {A : Option Addr} {n : Nat} {bs : List UInt8} (h : Bs w S A n bs) {k : Nat} (hk : k ≤ n) : Bs w S (A.map (fun x => x.add k)) (n - k) (bs.drop k) := by
  by_cases hz : n - k = 0
  · rw [hz, List.drop_eq_nil_of_le (by rw [h.len]; omega)]
    exact Bs.empty _ _ _
  · obtain ⟨b, off, rfl, _⟩ := h.2 (by omega)
    have h2 := h.drop hk
    rw [Option.map_some, addr_add]
    exact h2
theorem own_below {w w' : World} {base n c sz : Nat} {e : TypeId} {A : Option Addr} {xs : List Value} (h : w.ownsRow base e sz (.slice A n c) n xs) (hb : Below w.heap.size w w') : w'.ownsRow base e sz (.slice A n c) n xs := by
  refine ⟨h.1, ?_⟩
  rcases h.2 with h1 | ⟨g, cap, cur, h1, h2, h3, h4⟩
  · exact .inl h1
  · exact .inr ⟨g, cap, cur, h1, h2, (hb.block g (Whole.lt h3)).trans h3, h4⟩
theorem byte_of (v : Nat) (h : v < 256) : bv (UInt8.ofNat v) = .int .u8 (v : Int) := by
  show Value.int .u8 ((UInt8.ofNat v).toNat : Int) = _
  rw [UInt8.toNat_ofNat', Nat.mod_eq_of_lt h]
set_option maxHeartbeats 8000000 in
theorem expand_any (A B : Option Addr) (n m c d : Nat) (xs : List UInt8) (l : List Tok) (S R : Nat → Prop) (w : World) (hA : Bs w S A n xs) (hL : Toks w R B m l) (hn : n ≤ 32768) (hm : m ≤ 1000) (hq : ∀ q ∈ l, q.1 < 256) :
    Calls Try.prog 12 #[.slice A n c, .slice B m d] w (Exd w n (exs l xs)) := by
  obtain ⟨i0, hi, hz0, hz1, hz2⟩ := info_parts info5
  have HA := Lib.hid hA
  have HL := Lib.hid hL
  have HQ := Lib.hid hq
  have HXL := Lib.hid hA.len
  have HLL := Lib.hid hL.len
  clear hA hL hq
  have em : (if (0 : Int) < (n : Int) - 32768 then (n : Int) - 32768 else 0) = 0 := by split <;> omega
  have em2 : ((n : Int) - 32768 > 0) = False := by simp; omega
  go_enter Try.func12, Try.ntmps12
  go_wp2_with fail
  refine (clone_any A n c xs _ w HA.out (by omega)).mono ?_
  rintro e w1 ⟨A1, c1, rfl, ho, hb⟩
  rw [← HXL.out] at ho
  have HO := Lib.hid ho
  have HB := Lib.hid hb
  rw [← HXL.out]
  clear ho hb em em2
  go_wp2
  go_loopw [7, 20] (fun al i wr => ∃ (j : Nat) (ys : List UInt8) (A2 : Option Addr) (c2 : Nat), j ≤ m ∧ i = .int .i64 (j : Nat) ∧ al = .slice A2 ys.length c2 ∧ Hid (exs l xs = exs (l.drop j) ys) ∧ ys.length ≤ 32768 + 258 * j ∧ xs.length ≤ ys.length ∧ Hid (wr.ownsRow w.heap.size 5 1 (.slice A2 ys.length c2) ys.length (ys.map bv)) ∧ Hid (Below w.heap.size w wr)) (fun _ i _ => m - (intOf i).toNat)
  case atStart => exact ⟨0, xs, A1, c1, Nat.zero_le _, rfl, rfl, Lib.hid (by rw [List.drop_zero]), by rw [HXL.out]; omega, Nat.le_refl _, HO, HB⟩
  case round =>
    obtain ⟨j, ys, A2, c2, hj, rfl, rfl, hE, hyl, hxy, hO, hW⟩ := hrel
    by_cases hlt : j < m
    · obtain ⟨tb, to, rfl, h0, h1, h2⟩ := (HL.out.below hW.out).at_ hlt
      have HD := Lib.hid (drop_cons l j (by rw [HLL.out]; exact hlt))
      have hv := HQ.out (l.getD j (0, 0, 0)) (by rw [List.getD_eq_getElem?_getD, List.getElem?_eq_getElem (by rw [HLL.out]; exact hlt)]; simp)
      generalize l.getD j (0, 0, 0) = q at h0 h1 h2 HD hv
      rw [HD.out, exs] at hE
      obtain ⟨v, tl, td⟩ := q
      simp only at h0 h1 h2 hE hv
      have dj : decide ((j : Int) < (m : Int)) = true := by simp; omega
      obtain ⟨N, hN⟩ : ∃ N, ys.length = N := ⟨_, rfl⟩
      rw [hN] at hO hyl hxy ⊢
      have HN := Lib.hid hN
      clear hN
      go_wp2_with fail
      have hr := right_any (v, tl, td) (wr.alloc (.cells #[.int .u8 (v : Int), .int .i64 tl, .int .i64 td] 31))
      simp only at hr
      have T1 := Lib.hid (Whole.new wr 31 #[.int .u8 (v : Int), .int .i64 tl, .int .i64 td] rfl)
      have HO1 := Lib.hid (hO.out.alloc (.cells #[.int .u8 (v : Int), .int .i64 tl, .int .i64 td] 31))
      have HW1 := Lib.hid (hW.out.alloc hW.out.size (.cells #[.int .u8 (v : Int), .int .i64 tl, .int .i64 td] 31))
      refine hr.mono ?_
      rintro e w2 ⟨rfl, hb2⟩
      have T2 := Lib.hid (T1.out.below' hb2)
      have HO2 := Lib.hid (own_below HO1.out hb2)
      have HW2 := Lib.hid (HW1.out.trans (hb2.mono HW1.out.size))
      have x0 := T2.out.cell 0
      have x1 := T2.out.cell 1
      have x2 := T2.out.cell 2
      clear hr hb2 T1 HO1 HW1 hO hW h0 h1 h2
      by_cases hok : okT (v, tl, td) = true
      · rw [if_neg (by simp [hok])] at hE
        rw [hok]
        have HK := Lib.hid hok
        clear hok
        by_cases hz : tl = 0
        · rw [if_pos hz] at hE
          have e0 : (tl == 0) = true := by simpa using hz
          clear hz
          go_wp2_with (at_builtin; refine wpList_append_list _ rfl (.tmp 30) (.tmp 33) 22 rfl w.heap.size 5 i0 (.int .u8 0) 1 1 Try.underlying22 hi hz0 hz1 hz2 rfl (by decide) (.slice A2 N c2) N _ rfl (HO2.out.alloc _) _ (some ⟨w2.heap.size, 0, none⟩) 1 1 [.int .u8 (v : Int)] rfl (Lst.new w2 5 #[.int .u8 (v : Int)] 1 rfl rfl) (by simp [Value.oneCell']) (by unfold maxLen; omega) (by omega) (by have := HW2.out.size; simp; omega) ?_)
          intro A3 c3 x3 hown3 hgrow3 hat3
          have HO3 : Hid (x3.ownsRow w.heap.size 5 1 (.slice A3 (ys ++ [UInt8.ofNat v]).length c3) (ys ++ [UInt8.ofNat v]).length ((ys ++ [UInt8.ofNat v]).map bv)) := by
            rw [List.length_append, HN.out, List.length_singleton, List.map_append, List.map_singleton, byte_of v hv]
            exact Lib.hid hown3
          have HW3 := Lib.hid ((HW2.out.alloc HW2.out.size _).grown hgrow3 (by have := HW2.out.size; simp; omega) (fun g e => (HO2.out.lt g e).1))
          clear hown3 hgrow3 hat3
          go_wp2
          exact ⟨⟨j + 1, ys ++ [UInt8.ofNat v], A3, c3, by omega, by go_num, by rw [List.length_append, HN.out, List.length_singleton], hE, by rw [List.length_append, HN.out, List.length_singleton]; omega, by rw [List.length_append, HN.out]; omega, HO3, HW3⟩, by simp [intOf]; omega⟩
        · rw [if_neg hz] at hE
          have e0 : (tl == 0) = false := by simpa using hz
          have hb := HK.out
          unfold okT at hb
          rw [if_neg hz] at hb
          have hb := of_decide_eq_true hb
          simp only at hb
          obtain ⟨hb0, hb1, hb2, hb3, hb4⟩ := hb
          subst hb0
          clear hz
          obtain ⟨L, rfl⟩ := Int.eq_ofNat_of_zero_le (show 0 ≤ tl by omega)
          obtain ⟨D, rfl⟩ := Int.eq_ofNat_of_zero_le (show 0 ≤ td by omega)
          simp only [Int.toNat_natCast] at hE
          by_cases hdl : N < D
          · rw [if_pos (by rw [HN.out]; omega)] at hE
            have e1 : decide ((N : Int) < (D : Int)) = true := by simp; omega
            go_wp2
            go_ret2
            rw [hE.out]
            exact ⟨none, 0, 0, rfl, Nat.le_refl _, by rw [List.drop_nil]; exact Bs.empty _ _ _, HW2.out⟩
          · rw [if_neg (by rw [HN.out]; omega)] at hE
            have e1 : decide ((N : Int) < (D : Int)) = false := by simp; omega
            have hDN : D ≤ N := by omega
            have hD1 : 1 ≤ D := by omega
            have hLb : L ≤ 258 := by omega
            clear e1
            go_wp2
            obtain ⟨tg, htg⟩ : ∃ tg, wr.heap.size = tg := ⟨_, rfl⟩
            rw [htg] at T2 ⊢
            clear x0 x1 x2
            go_loopw [7, 42] (fun al i wi => ∃ (k : Nat) (A4 : Option Addr) (c4 : Nat), k ≤ L ∧ i = .int .i64 (k : Nat) ∧ al = .slice A4 (N + k) c4 ∧ Hid (wi.ownsRow w.heap.size 5 1 (.slice A4 (N + k) c4) (N + k) ((rep ys D k).map bv)) ∧ Hid (Below w.heap.size w wi) ∧ Hid (Whole wi tg 31 #[.int .u8 ((0 : Nat) : Int), .int .i64 (L : Int), .int .i64 (D : Int)])) (fun _ i _ => L - (intOf i).toNat)
            case atStart => exact ⟨0, A2, c2, Nat.zero_le _, rfl, rfl, HO2, HW2, T2⟩
            case round =>
              obtain ⟨k, A4, c4, hk, rfl, rfl, hO4, hW4, hT4⟩ := hrel
              by_cases hkl : k < L
              · have dk : decide ((k : Int) < (L : Int)) = true := by simp; omega
                obtain ⟨g4, rfl, hc4⟩ := own_some hO4.out (by omega)
                obtain ⟨M, hM⟩ : ∃ M, N + k = M := ⟨_, rfl⟩
                rw [hM] at hO4 hc4 ⊢
                have hMb : M ≤ 400000 := by omega
                have y2 := hT4.out.cell 2
                obtain ⟨p, hp⟩ : ∃ p, M - D = p := ⟨_, rfl⟩
                have hp' : (M : Int) - (D : Int) = (p : Nat) := by omega
                have hpM : p < M := by omega
                have hml : (rep ys D k).length = M := by rw [rep_len, HN.out]; exact hM
                obtain ⟨z, hz⟩ : ∃ z : UInt8, (rep ys D k).getD p 0 = z := ⟨_, rfl⟩
                have hcz : wr.cell? ⟨g4, p, none⟩ = some (.int .u8 (z.toNat : Int)) := by
                  rw [World.ownsRow.cellAt hO4.out p (by omega), List.getElem?_map, List.getElem?_eq_getElem (by omega), ← hz, List.getD_eq_getElem?_getD, List.getElem?_eq_getElem (by omega)]
                  rfl
                have HRS : Hid (rep ys D (k + 1) = rep ys D k ++ [z]) := Lib.hid (by rw [rep, hml, hp, hz])
                obtain ⟨z', hz'⟩ : ∃ z' : Nat, z.toNat = z' := ⟨_, rfl⟩
                rw [hz'] at hcz
                have HZ' := Lib.hid hz'
                have i1 : (p : Int) < (M : Int) := by omega
                have HMM := Lib.hid hM
                clear hz hz' hml hp hM
                go_wp2_with (at_builtin; refine wpList_append_list _ rfl (.tmp 44) (.tmp 53) 22 rfl w.heap.size 5 i0 (.int .u8 0) 1 1 Try.underlying22 hi hz0 hz1 hz2 rfl (by decide) (.slice (some ⟨g4, 0, none⟩) M c4) M _ rfl (hO4.out.alloc _) _ (some ⟨wr.heap.size, 0, none⟩) 1 1 [.int .u8 (z' : Int)] rfl (Lst.new wr 5 #[.int .u8 (z' : Int)] 1 rfl rfl) (by simp [Value.oneCell']) (by unfold maxLen; omega) (by omega) (by have := hW4.out.size; simp; omega) ?_)
                intro A5 c5 x5 hown5 hgrow5 hat5
                have HO5 : Hid (x5.ownsRow w.heap.size 5 1 (.slice A5 (N + (k + 1)) c5) (N + (k + 1)) ((rep ys D (k + 1)).map bv)) := by
                  rw [HRS.out, List.map_append, List.map_singleton, show N + (k + 1) = M + 1 by have := HMM.out; omega, show bv z = .int .u8 (z' : Int) by rw [← HZ'.out]]
                  exact Lib.hid hown5
                have HW5 := Lib.hid ((hW4.out.alloc hW4.out.size _).grown hgrow5 (by have := hW4.out.size; simp; omega) (fun g e => (hO4.out.lt g e).1))
                have HT5 := Lib.hid ((hT4.out.alloc (.cells #[.int .u8 (z' : Int)] 5)).grown hgrow5 (fun e => (own_ne31 hT4.out hO4.out) e))
                clear hown5 hgrow5 hat5
                go_wp2
                exact ⟨⟨k + 1, A5, c5, by omega, by go_num, by rw [show N + (k + 1) = M + 1 by have := HMM.out; omega], HO5, HW5, HT5⟩, by simp [intOf]; omega⟩
              · obtain rfl : k = L := by omega
                have hrl : (rep ys D k).length = N + k := by rw [rep_len, HN.out]
                go_wp2
                exact ⟨⟨j + 1, rep ys D k, A4, c4, by omega, by go_num, by rw [hrl], hE, by rw [hrl]; omega, by rw [hrl]; omega, (by rw [hrl]; exact hO4), hW4⟩, by simp [intOf]; omega⟩
      · have hok' : okT (v, tl, td) = false := by simpa using hok
        rw [if_pos hok'] at hE
        rw [hok']
        clear hok hok'
        go_wp2
        go_ret2
        rw [hE.out]
        exact ⟨none, 0, 0, rfl, Nat.le_refl _, by rw [List.drop_nil]; exact Bs.empty _ _ _, HW2.out⟩
    · obtain rfl : j = m := by omega
      have hE2 : exs l xs = (0, ys) := by rw [hE.out, List.drop_eq_nil_of_le (by rw [HLL.out]; exact Nat.le_refl _)]; rfl
      have HE2 := Lib.hid hE2
      obtain ⟨N, hN⟩ : ∃ N, ys.length = N := ⟨_, rfl⟩
      obtain ⟨P, hP⟩ : ∃ P, xs.length = P := ⟨_, rfl⟩
      rw [hN] at hO hyl hxy ⊢
      rw [hP] at hxy ⊢
      have hPn : P = n := by rw [← hP]; exact HXL.out
      have hcap := own_cap hO.out
      have i1 : (P : Int) ≤ (N : Int) := by omega
      have HOB := Lib.hid (Bs.of_own hO.out)
      clear hE hE2 hN
      by_cases hcp : c2 = P
      · have hNP : N = P := by omega
        subst hcp
        subst hNP
        go_wp2
        go_ret2
        rw [HE2.out]
        exact ⟨A2, _, 0, rfl, Nat.zero_le _, by simp only; rw [List.drop_eq_nil_of_le (by have := HOB.out.len; omega)]; exact Bs.empty _ _ _, hW.out⟩
      · have hcp' : ¬ P = c2 := fun e => hcp e.symm
        go_wp2
        go_ret2
        rw [HE2.out]
        exact ⟨_, _, _, rfl, by omega, by simp only; rw [← hPn]; exact bs_add HOB.out (by omega), hW.out⟩
end Go.Proofs.Ytmnlghbmioekcaa
