import Derived.Test.YtcjlkmibpmcjcaaDoorW1
import Derived.Deep.RegionWith
import Derived.Deep.RegionHeldLaw
import Derived.Deep.AppendLies
import Derived.WalkSpells
namespace Go.Proofs.YtcjlkmibpmcjcaaDoor
open Go.RowKit

theorem run_min_int4 {P : Program} (w : World) (ts : Array TypeId) (t : TypeId) (k : IntKind) (x y z u m : Int) (hm : min (min (min x y) z) u = m) : (Builtin.min_ ts t #[.int k x, .int k y, .int k z, .int k u]).run P w = .ok (.int k m) w := by
  subst hm
  simp only [Builtin.min_, List.foldlM]
  have e : ∀ a b : Int, (if b < a then b else a) = min a b := by intro a b; omega
  have h2 : ∀ (a b : Int) (w : World), (Builtin.min2 (.int k a) (.int k b)).run P w = .ok (.int k (min a b)) w := by
    intro a b w
    rw [← e]
    unfold Builtin.min2
    split <;> simp_all
  simp [h2]
theorem take_list {w : World} {S : Nat → Prop} {A : Option Addr} {n m : Nat} {ns : List Nat} (h : Lst w S 1 A n (bytes ns)) (hm : m ≤ n) : Lst w S 1 A m (bytes (ns.take m)) := by
  have hn : ns.length = n := by have := h.len; simpa using this
  refine ⟨by simp; omega, fun h0 => ?_⟩
  obtain ⟨b, off, e, hl, hb, hc⟩ := h.2 (by omega)
  refine ⟨b, off, e, hl, hb, fun i v hi => hc i v ?_⟩
  rw [List.getElem?_map, List.getElem?_map] at hi ⊢
  rcases Nat.lt_or_ge i m with him | him
  · rw [List.getElem?_take_of_lt him] at hi
    exact hi
  · rw [List.getElem?_eq_none (by simp; omega)] at hi
    simp at hi
theorem Small.take {ns : List Nat} (h : Small ns) (m : Nat) : Small (ns.take m) := fun b hb => h b (List.mem_of_mem_take hb)
theorem take_getD (ns : List Nat) (m k : Nat) (h : k < m) : (ns.take m).getD k 0 = ns.getD k 0 := by
  rw [List.getD_eq_getElem?_getD, List.getElem?_take_of_lt h, List.getD_eq_getElem?_getD]
theorem xor8 (a b c : Nat) (ha : a < 256) (hb : b < 256) (hc : a ^^^ b = c) : bits .xor .u8 (a : Int) (b : Int) = (c : Int) := by
  rw [u8_xor_nat a b ha hb, hc]
theorem Tab.below {w w' : World} (h : Tab w) (hb : Below w.heap.size w w') : Tab w' := fun i hi =>
  (hb.cell (p := ⟨0, i, none⟩) (by
    have h0 := h i hi
    unfold World.cell? at h0
    split at h0
    · rename_i hx
      exact (Array.getElem?_eq_some_iff.1 hx).1
    · cases h0)).trans (h i hi)
theorem Tab.drewN {w : World} (h : Tab w) (n : Nat) : Tab (w.drewN n) := h
theorem sum_any (A : Option Addr) (n c : Nat) (ns : List Nat) (S : Nat → Prop) (w : World) (hT : Tab w) (hL : Lst w S 1 A n (bytes ns)) (hb : Small ns) (hl : n ≤ 9223372036854775807) :
    Calls Tryd.prog 9 #[.slice A n c] w fun e w' => e = .returned (.int .u32 ((Crc.sum 0 ns : Nat) : Int)) ∧ w = w' := by
  go_enter Tryd.func9, Tryd.ntmps9
  go_wp2_with fail
  refine (update_any A n c 0 ns S w hT hL hb hl (by omega)).mono ?_
  rintro e w1 ⟨rfl, rfl⟩
  go_wp2
  go_ret
  exact ⟨rfl, rfl⟩
theorem rsum_any (A : Option Addr) (n c : Nat) (ns : List Nat) (S : Nat → Prop) (w : World) (hL : Lst w S 1 A n (bytes ns)) (hb : Small ns) (hl : n ≤ 9223372036854775807) :
    Calls Tryd.prog 8 #[.int .u32 0, .slice A n c] w fun e w' => e = .returned (.int .u32 ((Crc.sum 0 ns : Nat) : Int)) ∧ w = w' :=
  rupdate_any A n c 0 ns S w hL hb hl (by omega)
set_option maxHeartbeats 400000 in
theorem awake_any (w : World) (hT : Tab w) : Calls Tryd.prog 6 #[] w fun e w' => e = .returned (.bool true) ∧ Below w.heap.size w w' := by
  have HT := Lib.hid hT
  clear hT
  have kc := fun (w : World) (C : Array Value) (n c : Nat) => Lib.run_convert_bytes_const (P := Tryd.prog) w 23 5 C n c Tryd.underlying23 Tryd.underlying5
  go_enter Tryd.func6, Tryd.ntmps6
  go_wp2_with fail
  refine (sum_any _ 9 _ [49, 50, 51, 52, 53, 54, 55, 56, 57] _ _ (HT.out.below ((Below.refl _ _).alloc (Nat.le_refl _) _)) (Lst.new w 5 #[.int .u8 49, .int .u8 50, .int .u8 51, .int .u8 52, .int .u8 53, .int .u8 54, .int .u8 55, .int .u8 56, .int .u8 57] 9 rfl rfl) (by intro x hx; simp at hx; omega) (by omega)).mono ?_
  rw [show Crc.sum 0 [49, 50, 51, 52, 53, 54, 55, 56, 57] = 3421780262 from by decide +kernel]
  rintro e w1 ⟨rfl, rfl⟩
  go_wp2
  go_ret
  exact ⟨rfl, (Below.refl _ _).alloc (Nat.le_refl _) _⟩
set_option maxHeartbeats 1000000 in
theorem sums_any (A : Option Addr) (n c s : Nat) (ns : List Nat) (S : Nat → Prop) (w : World) (hT : Tab w) (hL : Lst w S 1 A n (bytes ns)) (hb : Small ns) (hl : n ≤ 9223372036854775807) (hs : s < 4294967296) :
    Calls Tryd.prog 3 #[.int .u32 (s : Int), .slice A n c] w fun e w' => e = .returned (.bool true) ∧ Below w.heap.size w w' := by
  have HT := Lib.hid hT
  have HL := Lib.hid hL
  have HB := Lib.hid hb
  clear hT hL hb
  by_cases hlong : 1000 < n
  · go_enter Tryd.func3, Tryd.ntmps3
    go_wp2_with fail
    refine (awake_any _ HT.out).mono ?_
    rintro e w1 ⟨rfl, hb1⟩
    have HB1 := Lib.hid hb1
    clear hb1
    go_wp2
    go_ret
    exact ⟨rfl, HB1.out⟩
  · go_enter Tryd.func3, Tryd.ntmps3
    go_wp2_with fail
    refine (awake_any _ HT.out).mono ?_
    rintro e w1 ⟨rfl, hb1⟩
    have HB1 := Lib.hid hb1
    have HT1 := Lib.hid (HT.out.below hb1)
    have HL1 := Lib.hid (HL.out.below hb1)
    clear hb1
    have dl : decide ((1000 : Int) < (n : Int)) = false := by simp; omega
    go_wp2_with fail
    refine (update_any A n c s ns _ _ HT1.out HL1.out HB.out hl hs).mono ?_
    rintro e w2 ⟨rfl, rfl⟩
    go_wp2_with fail
    refine (rupdate_any A n c s ns _ _ HL1.out HB.out hl hs).mono ?_
    rintro e w2 ⟨rfl, rfl⟩
    go_wp2_with fail
    refine (sum_any A n c ns _ _ HT1.out HL1.out HB.out hl).mono ?_
    rintro e w2 ⟨rfl, rfl⟩
    go_wp2_with fail
    refine (rsum_any A n c ns _ _ HL1.out HB.out hl).mono ?_
    rintro e w2 ⟨rfl, rfl⟩
    go_wp2
    go_ret
    exact ⟨rfl, HB1.out⟩
theorem sum_lt (ns : List Nat) : Crc.sum 0 ns < 4294967296 := by
  unfold Crc.sum Crc.ones
  omega
theorem bytes_snoc (q : List Nat) (x : Nat) : bytes (q ++ [x]) = bytes q ++ [.int .u8 (x : Int)] := by simp [bytes]
theorem bytes_take_succ (q : List Nat) (k : Nat) (h : k < q.length) : bytes (q.take (k + 1)) = bytes (q.take k) ++ [.int .u8 ((q.getD k 0 : Nat) : Int)] := by
  have e : q.take (k + 1) = q.take k ++ [q.getD k 0] := by
    rw [List.take_succ_eq_append_getElem h, List.getD_eq_getElem?_getD, List.getElem?_eq_getElem h]
    rfl
  rw [e, bytes_snoc]
theorem info5 : (Tryd.prog.info? 5).map (fun i => (i.zero, i.size, i.bytes)) = some (some (.int .u8 0), 1, 1) := by kernel_rfl
set_option maxHeartbeats 1000000 in
theorem linear_any (A B C : Option Addr) (la lb lc ca cb cc : Nat) (xs ys zs : List Nat) (S : Nat → Prop) (w : World) (hT : Tab w) (hA : Lst w S 1 A la (bytes xs)) (hB : Lst w S 1 B lb (bytes ys)) (hC : Lst w S 1 C lc (bytes zs))
    (sa : Small xs) (sb : Small ys) (sc : Small zs) (ma : la ≤ 9223372036854775807) (mb : lb ≤ 9223372036854775807) (mc : lc ≤ 9223372036854775807) (pa : la ≤ ca) (pb : lb ≤ cb) (pc : lc ≤ cc) :
    Calls Tryd.prog 5 #[.slice A la ca, .slice B lb cb, .slice C lc cc] w fun e w' => e = .returned (.bool true) ∧ Below w.heap.size w w' := by
  have HT := Lib.hid hT
  clear hT
  have HA := Lib.hid hA
  have HB := Lib.hid hB
  have HC := Lib.hid hC
  clear hA hB hC
  go_enter Tryd.func5, Tryd.ntmps5
  go_wp2_with fail
  refine (awake_any _ HT.out).mono ?_
  rintro e w1 ⟨rfl, hb1⟩
  have HB1 := Lib.hid hb1
  have HT1 := Lib.hid (HT.out.below hb1)
  clear hb1
  obtain ⟨m, hm, m1, m2, m3, m4⟩ : ∃ m : Nat, min (min (min (la : Int) (lb : Int)) (lc : Int)) 1000 = (m : Int) ∧ m ≤ la ∧ m ≤ lb ∧ m ≤ lc ∧ m ≤ 1000 :=
    ⟨min (min (min la lb) lc) 1000, by omega, by omega, by omega, by omega, by omega⟩
  have hmin := fun w => run_min_int4 (P := Tryd.prog) w #[3, 3, 3, 3] 3 .i64 (la : Int) (lb : Int) (lc : Int) 1000 (m : Int) hm
  clear hm
  obtain ⟨i0, hi, hz0, hz1, hz2⟩ := info_parts info5
  have hxl : xs.length = la := by have := HA.out.len; simpa using this
  have hyl : ys.length = lb := by have := HB.out.len; simpa using this
  have hzl : zs.length = lc := by have := HC.out.len; simpa using this
  have hml := Crc.mix_len (xs.take m) (ys.take m) (zs.take m) m (by simp; omega) (by simp; omega) (by simp; omega)
  have SM := Lib.hid (Crc.mix_small _ _ _ (sa.take m) (sb.take m) (sc.take m))
  have MAT := Lib.hid (fun k (hk : k < m) => Crc.mix_at (xs.take m) (ys.take m) (zs.take m) k (by simp; omega) (by simp; omega) (by simp; omega))
  have X3 := Lib.hid (Crc.sum_xor3 (xs.take m) (ys.take m) (zs.take m) (by simp; omega) (by simp; omega) (sa.take m) (sb.take m) (sc.take m) SM.out)
  have SA := Lib.hid sa
  have SB := Lib.hid sb
  have SC := Lib.hid sc
  clear sa sb sc hxl hyl hzl
  generalize hmix : Crc.mix (xs.take m) (ys.take m) (zs.take m) = q at *
  have HML := Lib.hid hml
  clear hmix hml
  go_wp2
  clear hmin
  go_loopw [8, 9] (fun v i wr => ∃ (k : Nat) (X : Option Addr) (d : Nat), k ≤ m ∧ i = .int .i64 k ∧ v = .slice X k d ∧ Hid (wr.ownsRow w.heap.size 5 1 (.slice X k d) k (bytes (q.take k))) ∧ Hid (Below w.heap.size w wr)) (fun _ i _ => m - (intOf i).toNat)
  case atStart => exact ⟨0, none, 0, Nat.zero_le _, rfl, rfl, World.ownsRow_nil _ _ _ _, HB1⟩
  case round =>
    obtain ⟨k, X, d, hk, rfl, rfl, hO, hW⟩ := hrel
    clear HB1
    by_cases hlt : k < m
    · obtain ⟨b1, o1, rfl, l1, _, c1'⟩ := bytes_at HA.out (show k < la by omega)
      have c1 := (hW.out.cell (p := ⟨b1, o1 + k, none⟩) l1).trans c1'
      have n1 : Hid (some b1 ≠ (Value.slice X k d).ownBlock) := Lib.hid (fun e => by have := (hO.out.lt b1 e.symm).1; omega)
      have q1 := Lib.hid (Nat.lt_of_lt_of_le l1 hW.out.size)
      clear c1'
      obtain ⟨b2, o2, rfl, l2, _, c2'⟩ := bytes_at HB.out (show k < lb by omega)
      have c2 := (hW.out.cell (p := ⟨b2, o2 + k, none⟩) l2).trans c2'
      have n2 : Hid (some b2 ≠ (Value.slice X k d).ownBlock) := Lib.hid (fun e => by have := (hO.out.lt b2 e.symm).1; omega)
      have q2 := Lib.hid (Nat.lt_of_lt_of_le l2 hW.out.size)
      clear c2'
      obtain ⟨b3, o3, rfl, l3, _, c3'⟩ := bytes_at HC.out (show k < lc by omega)
      have c3 := (hW.out.cell (p := ⟨b3, o3 + k, none⟩) l3).trans c3'
      have n3 : Hid (some b3 ≠ (Value.slice X k d).ownBlock) := Lib.hid (fun e => by have := (hO.out.lt b3 e.symm).1; omega)
      have q3 := Lib.hid (Nat.lt_of_lt_of_le l3 hW.out.size)
      clear c3'
      have e := MAT.out k hlt
      rw [take_getD _ _ _ hlt, take_getD _ _ _ hlt, take_getD _ _ _ hlt] at e
      have y1 := SA.out.get k
      have y2 := SB.out.get k
      have y3 := SC.out.get k
      have HQ := Lib.hid (bytes_take_succ q k (by have := HML.out; omega))
      generalize xs.getD k 0 = x1 at *
      generalize ys.getD k 0 = x2 at *
      generalize zs.getD k 0 = x3 at *
      generalize q.getD k 0 = x4 at *
      obtain ⟨x5, e5⟩ : ∃ x, x1 ^^^ x2 = x := ⟨_, rfl⟩
      rw [e5] at e
      have y5 : x5 < 256 := by rw [← e5]; exact Nat.xor_lt_two_pow (n := 8) (by omega) (by omega)
      have g1 := xor8 x1 x2 x5 y1 y2 e5
      have g2 := xor8 x5 x3 x4 y5 y3 e.symm
      clear e e5
      have i1 : (0 : Int) ≤ (k : Int) := by omega
      have i2 : (k : Int) < (la : Int) := by omega
      have i3 : (k : Int) < (lb : Int) := by omega
      have i4 : (k : Int) < (lc : Int) := by omega
      have ws := hW.out.size
      go_wp2
      go_region_held_law (fun w' => w'.cell? ⟨b1, o1 + k, none⟩ = some (.int .u8 (x1 : Int)) ∧ w'.cell? ⟨b2, o2 + k, none⟩ = some (.int .u8 (x2 : Int)) ∧ w'.cell? ⟨b3, o3 + k, none⟩ = some (.int .u8 (x3 : Int)))
        (first
          | go_keep
          | (go_split_ands
             refine ⟨?_, ?_, ?_⟩
             · (rw [hgrow.cell_far _ (by have := q1.out; simp; omega) n1.out]; assumption)
             · (rw [hgrow.cell_far _ (by have := q2.out; simp; omega) n2.out]; assumption)
             · (rw [hgrow.cell_far _ (by have := q3.out; simp; omega) n3.out]; assumption)))
        ((refine step_append_lies _ (by rfl) (.tmp 24) (.tmp 39) 23 (by rfl) w.heap.size 5 i0 _ 1 1 Tryd.underlying23 hi hz0 hz1 hz2 rfl (by omega) (.slice X k d) k (bytes (q.take k)) (by rfl) ((hO.out.alloc _).drew)
            ⟨wr.heap.size, 0, none⟩ 1 1 [.int .u8 (x4 : Int)] (by rfl) (by rfl) (World.news_of_block (cs := #[.int .u8 (x4 : Int)]) (t := 5) (fr := (0, 0)) (heap_alloc_new wr _)) (by simp [Value.oneCell'])
            (by omega) (by unfold maxLen; omega) (by omega) (by simp; omega) (wr.heap.size + 1) (by simp) ?_; intro gg cap wx hown1 hgrow hat hlt1))
      have HO3 := Lib.hid hown1
      have HW3 := Lib.hid ((((hW.out.alloc ws _).drewN' 1).grown hgrow (by simp [World.drewN]; omega) (fun g e => (hO.out.lt g e).1)))
      clear hown1 hgrow hat
      go_wp2
      go_roundw
      case rel => exact ⟨k + 1, some ⟨gg, 0, none⟩, cap, by omega, by go_num, rfl, by rw [HQ.out]; exact HO3, HW3⟩
      case measure => simp [intOf]; omega
    · obtain rfl : k = m := by omega
      have HL := Lib.hid (Lst.of_own hO.out)
      have hqk : q.take k = q := List.take_of_length_le (by have := HML.out; omega)
      rw [hqk] at HL
      have i1 : (0 : Int) ≤ (k : Int) := by omega
      have i2 : (k : Int) ≤ (ca : Int) := by omega
      have i3 : (k : Int) ≤ (cb : Int) := by omega
      have i4 : (k : Int) ≤ (cc : Int) := by omega
      have HTr := Lib.hid (HT.out.below hW.out)
      have HAr := Lib.hid (take_list (HA.out.below hW.out) m1)
      have HBr := Lib.hid (take_list (HB.out.below hW.out) m2)
      have HCr := Lib.hid (take_list (HC.out.below hW.out) m3)
      have zA := sum_lt (xs.take k)
      have zB := sum_lt (ys.take k)
      have zC := sum_lt (zs.take k)
      have x3 := X3.out
      have SA' := Lib.hid (SA.out.take k)
      have SB' := Lib.hid (SB.out.take k)
      have SC' := Lib.hid (SC.out.take k)
      generalize xs.take k = xs' at *
      generalize ys.take k = ys' at *
      generalize zs.take k = zs' at *
      have g1 := fun t (h : Crc.sum 0 xs' ^^^ Crc.sum 0 ys' = t) => xor32 _ _ t zA zB h
      go_wp2
      go_quiet (first | ((go_at_call 9; exact Calls.quiet_eq (sum_any _ _ _ q _ _ HTr.out HL.out SM.out (by omega)))) | ((go_at_call 9; exact Calls.quiet_eq (sum_any _ _ _ xs' _ _ HTr.out HAr.out SA'.out (by omega)))) | ((go_at_call 9; exact Calls.quiet_eq (sum_any _ _ _ ys' _ _ HTr.out HBr.out SB'.out (by omega)))) | ((go_at_call 9; exact Calls.quiet_eq (sum_any _ _ _ zs' _ _ HTr.out HCr.out SC'.out (by omega)))))
      go_wp2
      rw [xor32 (Crc.sum 0 xs' ^^^ Crc.sum 0 ys') (Crc.sum 0 zs') _ (Crc.xor_lt _ _ zA zB) zC rfl]
      rw [beq_self_eq_true]
      go_ret
      exact ⟨rfl, hW.out.drewN' _⟩
end Go.Proofs.YtcjlkmibpmcjcaaDoor
