/- TokenJoins: the law itself. -/
import Derived.Test.YtmnlghbmioekcaaT4
namespace Go.Proofs.Ytmnlghbmioekcaa
open Go.RowKit

theorem own_sz {w : World} {base n c sz : Nat} {e : TypeId} {A : Option Addr} {xs : List Value} (h : w.ownsRow base e sz (.slice A n c) n xs) : n ≤ c ∧ c ≤ 9223372036854775807 := by
  rcases h.2 with ⟨h1, h2⟩ | ⟨g, cap, cur, h1, _, _, h2, h3, _⟩
  · injection h1 with _ _ h1
    omega
  · injection h1 with _ _ h1
    unfold maxLen at h3
    omega
theorem own_nothing (w : World) (e : TypeId) (sz : Nat) {B : Nat} (hB : B ≤ w.heap.size) : (w.alloc (.cells #[] e)).ownsRow B e sz (.slice (some ⟨w.heap.size, 0, none⟩) 0 0) 0 [] :=
  ⟨by simp, .inr ⟨w.heap.size, 0, #[], rfl, hB, heap_alloc_new w _, Nat.le_refl _, by unfold maxLen; omega, by simp, by simp⟩⟩
set_option maxRecDepth 100000 in
set_option maxHeartbeats 8000000 in
theorem joins_law (A B C : Option Addr) (n p q c d f : Nat) (xs : List UInt8) (l m : List Tok) (W : World) (hA : Bs W (fun b => b < W.heap.size) A n xs) (hB : Toks W (fun b => b < W.heap.size) B p l) (hC : Toks W (fun b => b < W.heap.size) C q m)
    (hl : ∀ t ∈ l, t.1 < 256) (hm : ∀ t ∈ m, t.1 < 256) :
    Calls Try.prog 4 #[.slice A n c, .slice B p d, .slice C q f] W fun e w' => e = .returned (.bool true) ∧ Below W.heap.size W w' := by
  obtain ⟨i0, hii0, hz0i0, hz1i0, hz2i0⟩ := info_parts info31
  obtain ⟨i1, hii1, hz0i1, hz1i1, hz2i1⟩ := info_parts info5
  have HXL := Lib.hid hA.len
  have HLL := Lib.hid hB.len
  have HML := Lib.hid hC.len
  have HA := Lib.hid hA
  have HB := Lib.hid hB
  have HC := Lib.hid hC
  have HQ1 := Lib.hid hl
  have HQ2 := Lib.hid hm
  clear hA hB hC hl hm
  go_enter Try.func4, Try.ntmps4
  go_wp2_with fail
  refine (awake_any _).mono ?_
  rintro e w1 ⟨rfl, hb1⟩
  have HW := Lib.hid hb1
  clear hb1
  go_wp2_with fail
  refine (few_any A B n p c d w1).mono ?_
  by_cases h1 : n ≤ 1000 ∧ p ≤ 100
  case neg =>
    rw [show (decide (n ≤ 1000) && decide (p ≤ 100)) = false by simp; omega]
    rintro e w2 ⟨rfl, rfl⟩
    go_wp2
    go_ret
    exact ⟨rfl, HW.out⟩
  rw [show (decide (n ≤ 1000) && decide (p ≤ 100)) = true by simp; omega]
  rintro e w2 ⟨rfl, rfl⟩
  obtain ⟨hn, hp⟩ := h1
  go_wp2_with fail
  refine (few_any A C n q c f w1).mono ?_
  by_cases h2 : q ≤ 100
  case neg =>
    rw [show (decide (n ≤ 1000) && decide (q ≤ 100)) = false by simp; omega]
    rintro e w2 ⟨rfl, rfl⟩
    go_wp2
    go_ret
    exact ⟨rfl, HW.out⟩
  rw [show (decide (n ≤ 1000) && decide (q ≤ 100)) = true by simp; omega]
  rintro e w2 ⟨rfl, rfl⟩
  go_wp2_with fail
  refine (lits_any A n c xs _ w1 (HA.out.below HW.out) hn).mono ?_
  rintro e w2 ⟨A2, c2, rfl, hT, hb⟩
  have HW2 := Lib.hid (HW.out.trans (hb.mono HW.out.size))
  have HT := Lib.hid hT
  clear hb hT HW
  go_wp2_with fail
  refine (expand_any none A2 0 n 0 c2 [] (xs.map fun c => ((c.toNat, 0, 0) : Tok)) (fun _ => True) _ w2 (Bs.empty _ _ _) HT.out (by omega) hn (by
    intro t ht
    obtain ⟨c, _, rfl⟩ := List.mem_map.1 ht
    exact c.toNat_lt)).mono ?_
  rintro e w3 ⟨A3, c3, k3, rfl, hk3, hB3, hb3⟩
  rw [exs_lits, List.drop_zero, List.nil_append] at hB3
  rw [exs_lits]
  have HW3 := Lib.hid (HW2.out.trans (hb3.mono HW2.out.size))
  have x1 := str_of c3 hB3
  have x2 := str_of c (HA.out.below HW3.out)
  clear hB3 hb3 HW2 HT hk3
  go_wp2_with (at_builtin; refine wpList_append_list _ rfl (.tmp 44) (.tmp 45) 23 rfl W.heap.size 31 i0 (.agg #[.int .u8 0, .int .i64 0, .int .i64 0]) 3 24 Try.underlying23 hii0 hz0i0 hz1i0 hz2i0 rfl (by decide) (.slice (some ⟨w3.heap.size, 0, none⟩) 0 0) 0 _ rfl (own_nothing w3 31 3 HW3.out.size) _ B p d _ rfl (Lst.alloc (HB.out.below HW3.out) _) (flatT_one l) (by unfold maxLen; omega) (by omega) (by have := HW3.out.size; simp; omega) ?_)
  intro A4 c4 w4 ho4 hg4 hat4
  have HO4 : Hid (w4.ownsRow W.heap.size 31 3 (.slice A4 p c4) p (flatT l)) := Lib.hid (by simpa using ho4)
  have HW4 := Lib.hid ((HW3.out.alloc HW3.out.size (.cells #[] 31)).grown hg4 (by have := HW3.out.size; simp; omega) (fun g e => by simp [Value.ownBlock] at e; have := HW3.out.size; omega))
  clear ho4 hg4 hat4 x1 x2 HW3
  go_wp2_with (at_builtin; refine wpList_append_list _ rfl (.tmp 46) (.tmp 47) 23 rfl W.heap.size 31 i0 (.agg #[.int .u8 0, .int .i64 0, .int .i64 0]) 3 24 Try.underlying23 hii0 hz0i0 hz1i0 hz2i0 rfl (by decide) (.slice A4 p c4) p _ rfl HO4.out _ C q f _ rfl (HC.out.below HW4.out) (flatT_one m) (by unfold maxLen; omega) (by omega) HW4.out.size ?_)
  intro A5 c5 w5 ho5 hg5 hat5
  have HT5 : Hid (Toks w5 (fun b => W.heap.size ≤ b) A5 (p + q) (l ++ m)) := Lib.hid (by
    have h := Lst.of_own ho5
    rw [← flatT_append] at h
    exact h)
  have HW5 := Lib.hid (HW4.out.grown hg5 HW4.out.size (fun g e => (HO4.out.lt g e).1))
  clear ho5 hg5 hat5 HO4 HW4
  go_wp2_with fail
  have hx := expand_any A A5 n (p + q) c c5 xs (l ++ m) _ _ w5 (HA.out.below HW5.out) HT5.out (by omega) (by omega) (by
    intro t ht
    rcases List.mem_append.1 ht with h | h
    · exact HQ1.out t h
    · exact HQ2.out t h)
  obtain ⟨R, hR⟩ : ∃ R, exs (l ++ m) xs = R := ⟨_, rfl⟩
  rw [hR] at hx
  rw [exs_append] at hR
  have HR := Lib.hid hR
  obtain ⟨rc, rl⟩ := R
  refine hx.mono ?_
  clear hx hR
  rintro e w6 ⟨A6, c6, k6, rfl, hk6, hB6, hb6⟩
  have HW6 := Lib.hid (HW5.out.trans (hb6.mono HW5.out.size))
  clear hb6 HT5 HW5 hk6
  go_wp2_with fail
  have hx := expand_any A B n p c d xs l _ _ w6 (HA.out.below HW6.out) (HB.out.below HW6.out) (by omega) (by omega) HQ1.out
  have HPRE := Lib.hid (exs_pre l xs)
  obtain ⟨G, hG⟩ : ∃ G, exs l xs = G := ⟨_, rfl⟩
  rw [hG] at hx HPRE HR
  clear hG
  obtain ⟨gc, gl⟩ := G
  refine hx.mono ?_
  clear hx
  rintro e w7 ⟨A7, c7, k7, rfl, hk7, hB7, hb7⟩
  have HW7 := Lib.hid (HW6.out.trans (hb7.mono HW6.out.size))
  have HB67 := Lib.hid (hB6.below hb7).and_lt
  have HB7 := Lib.hid hB7.and_lt
  clear hB6 hB7 hb7 HW6
  simp only at HPRE HB7 HB67 HR ⊢
  by_cases hg0 : gc = 0
  · subst hg0
    rw [if_pos rfl] at HR
    obtain ⟨zs, hz, hzl⟩ := HPRE.out rfl
    have hzl2 : zs.length ≤ 25800 := by rw [HLL.out] at hzl; omega
    have hdz : gl.drop n = zs := by rw [hz, List.drop_left' HXL.out]
    rw [hdz] at HB7
    have hgl : gl.length = n + zs.length := by rw [hz, List.length_append, HXL.out]
    have HGL := Lib.hid hgl
    have hk7l : k7 = zs.length := HB7.out.len.symm
    subst hk7l
    have HZ := Lib.hid hz
    clear HPRE hz hdz hgl hzl
    go_wp2_with (at_builtin; refine wpList_append_list _ rfl (.tmp 64) (.tmp 65) 22 rfl W.heap.size 5 i1 (.int .u8 0) 1 1 Try.underlying22 hii1 hz0i1 hz1i1 hz2i1 rfl (by decide) (.slice (some ⟨w7.heap.size, 0, none⟩) 0 0) 0 _ rfl (own_nothing w7 5 1 HW7.out.size) _ A n c _ rfl (Lst.alloc (HA.out.below HW7.out) _) oneCell_bytes (by unfold maxLen; omega) (by omega) (by have := HW7.out.size; simp; omega) ?_)
    intro A8 c8 w8 ho8 hg8 hat8
    have HO8 : Hid (w8.ownsRow W.heap.size 5 1 (.slice A8 n c8) n (xs.map bv)) := Lib.hid (by simpa using ho8)
    have HW8 := Lib.hid ((HW7.out.alloc HW7.out.size (.cells #[] 5)).grown hg8 (by have := HW7.out.size; simp; omega) (fun g e => by simp [Value.ownBlock] at e; have := HW7.out.size; omega))
    have h78 : Below w7.heap.size w7 w8 := ((Below.refl w7.heap.size w7).alloc (Nat.le_refl _) (.cells #[] 5)).grown hg8 (by simp) (fun g e => by simp [Value.ownBlock] at e; omega)
    have HB78 := Lib.hid (HB7.out.below h78)
    have HB68 := Lib.hid (HB67.out.below h78)
    have HAT8 : Hid (∀ k, (Value.slice A8 n c8).ownBlock = some k → w7.heap.size ≤ k) := Lib.hid (fun k hk => by
      have h9 := hat8
      rw [hk] at h9
      rcases h9 with h | h
      · have h : k = w7.heap.size := by injection h
        omega
      · have h : k = w7.heap.size + 1 := by injection h
        omega)
    clear ho8 hg8 hat8 h78
    go_wp2_with (at_builtin; refine wpList_append_list _ rfl (.tmp 66) (.tmp 67) 22 rfl W.heap.size 5 i1 (.int .u8 0) 1 1 Try.underlying22 hii1 hz0i1 hz1i1 hz2i1 rfl (by decide) (.slice A8 n c8) n _ rfl HO8.out _ A7 zs.length c7 _ rfl HB78.out oneCell_bytes (by unfold maxLen; omega) (by omega) HW8.out.size ?_)
    intro A9 c9 w9 ho9 hg9 hat9
    have HT9 : Hid (Bs w9 (fun b => W.heap.size ≤ b) A9 (n + zs.length) (xs ++ zs)) := Lib.hid (by
      have h := Lst.of_own ho9
      rw [← List.map_append] at h
      exact h)
    have HW9 := Lib.hid (HW8.out.grown hg9 HW8.out.size (fun g e => (HO8.out.lt g e).1))
    have HB79 := Lib.hid (HB78.out.grown hg9 (fun b hb hs e => by
      have h9 := HAT8.out b e.symm
      have := hs.2
      omega))
    have HB69 := Lib.hid (HB68.out.grown hg9 (fun b hb hs e => by
      have h9 := HAT8.out b e.symm
      have := hs.2
      omega))
    clear ho9 hg9 hat9 HO8 HW8 HB78 HB68 HAT8 HW7 HB7 HB67
    have hx := expand_any A9 C (n + zs.length) q c9 f (xs ++ zs) m _ _ w9 HT9.out (HC.out.below HW9.out) (by omega) (by omega) HQ2.out
    rw [← HZ.out, HR.out] at hx
    go_wp2_with fail
    refine hx.mono ?_
    rintro e w10 ⟨A10, c10, k10, rfl, hk10, hB10, hb10⟩
    have HW10 := Lib.hid (HW9.out.trans (hb10.mono HW9.out.size))
    have y1 := str_of c6 (HB69.out.below hb10)
    have y2 := str_of c7 (HB79.out.below hb10)
    have y3 := str_of c10 hB10
    have HP2 := Lib.hid (exs_pre m gl)
    rw [HR.out] at HP2
    simp only at HP2 y1 y2 y3 ⊢
    clear hx hb10 hB10 hk10 HR HT9 HW9 HB79 HB69
    by_cases hr0 : rc = 0
    · subst hr0
      obtain ⟨us, hu, hul⟩ := HP2.out rfl
      rw [HML.out] at hul
      have hlen : ¬ 9223372036854775807 < zs.length + us.length := by omega
      clear hul
      have hd1 : rl.drop n = zs ++ us := by rw [hu, HZ.out, List.append_assoc, List.drop_left' HXL.out]
      have hd2 : rl.drop (n + zs.length) = us := by rw [hu, List.drop_left' HGL.out]
      rw [hd1] at y1
      rw [hd2] at y3
      have es : (⟨zs.toArray⟩ ++ ⟨us.toArray⟩ : ByteArray) = ⟨(zs ++ us).toArray⟩ := ByteArray.ext (by simp)
      clear hu hd1 hd2 HP2 HZ HGL
      go_wp2
      go_ret
      exact ⟨rfl, HW10.out⟩
    · have e2 : (rc != 0) = true := by simpa using hr0
      clear y1 y2 y3 HP2
      go_wp2
      go_ret
      exact ⟨rfl, HW10.out⟩
  · rw [if_neg hg0] at HR
    have h := HR.out
    injection h with h3 h4
    subst h3 h4
    have e1 : (gc != 0) = true := by simpa using hg0
    clear HR
    go_wp2
    go_ret
    exact ⟨rfl, HW7.out⟩
end Go.Proofs.Ytmnlghbmioekcaa
