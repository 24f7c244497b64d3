/- The device: Move; the page's example. -/
import Derived.Test.YtdopngelcodcnaaD3
import Derived.Lib.SlBytesConst
namespace Go.Proofs.Ytdopngelcodcnaa
open Go.RowKit

theorem wpList_copy_chg {P : Program} {w : World} {ops : Array Oper} {rest : List Oper} {o : Oper} {a : Act} {Q : Exit → Act → World → Prop} (hgd : o.guard = none) (d s : Operand) (dT sT : TypeId)
    (ho : o.op = .call { callee := .builtin .copy, args := #[d, s], argTypes := #[dT, sT] }) (elem : TypeId) (hu : P.underlying dT = some (.slice elem)) (hsz : (P.info? elem).map (·.size) = some 1)
    (dp sp : Option Addr) (dLen dCap sLen sCap : Nat) (hd : a.eval d = .slice dp dLen dCap) (hs : a.eval s = .slice sp sLen sCap)
    (g off : Nat) (cur : List Value) (t : TypeId) (hg : w.heap[g]? = some (.cells cur.toArray t (0, 0))) (cs : List Value) (hn : cs.length = Nat.min sLen dLen)
    (hpos : 0 < cs.length → dp = some ⟨g, off, none⟩ ∧ ∃ ad, sp = some ad ∧ ∀ j v, cs[j]? = some v → w.cell? (ad.add j) = some v)
    (hfit : off + cs.length ≤ cur.length) (h1 : ∀ v ∈ cs, v.oneCell' = true)
    (h : ∀ w', Hid (w'.heap[g]? = some (.cells (splice cur off cs).toArray t (0, 0))) → Chg w w' (fun b => b = g) → wpList P ops Q rest (a.put o.dst (goInt cs.length)) w') : wpList P ops Q (o :: rest) a w := by
  refine wpList_plain hgd fun K hK => ?_
  by_cases h0 : cs.length = 0
  · obtain rfl : cs = [] := List.eq_nil_of_length_eq_zero h0
    have hrun := run_copy_none (P := P) w dT sT o.type elem dp sp dLen dCap sLen sCap hu hsz (by simpa using hn.symm)
    unfold Oper.wp
    simp [execOp, ho, resolve, invoke, builtin, hd, hs, hrun, Result.andThen]
    exact hK _ _ (h w (show _ = _ by simpa [splice] using hg) (Chg.refl _ _))
  · obtain ⟨rfl, ad, rfl, hsrc⟩ := hpos (by omega)
    have hrun := run_copy_row (P := P) w dT sT o.type elem g off dLen dCap ad sLen sCap cur.toArray t cs hu hsz hg hn hsrc (by simpa using hfit) h1
    unfold Oper.wp
    simp [execOp, ho, resolve, invoke, builtin, hd, hs, hrun, Result.andThen]
    exact hK _ _ (h _ (show _ = _ by simpa [splice] using setRow_heap w g _ _ t _ hg) (setRow_chg w g _))
set_option maxHeartbeats 4000000 in
theorem move_any (g h : Nat) (D : List UInt8) (R M a b k : Nat) (base : Nat) (w : World) (hV : Dv w base g h D R M) (hD : D.length ≤ 16777216) (ha : a + k ≤ D.length) (hb : b + k ≤ D.length) (hk : 0 < k) (hR : R ≤ 1000000000) (hM : M ≤ 1000000000) :
    Calls Try.prog 13 #[.pointer (some ⟨g, 0, none⟩), .int .i64 (a : Nat), .int .i64 (b : Nat), .int .i64 (k : Nat)] w (Wrote w base g h (overB D b ((D.drop a).take k)) (R + k) (M + k)) := by
  have hx1 := exists_any g h D R M (a : Nat) (k : Nat) base w hV hD (by omega) (by omega) (by omega) (by omega)
  rw [show inB D.length (a : Nat) (k : Nat) = true from decide_eq_true (by omega)] at hx1
  have hx2 := exists_any g h D R M (b : Nat) (k : Nat) base w hV hD (by omega) (by omega) (by omega) (by omega)
  rw [show inB D.length (b : Nat) (k : Nat) = true from decide_eq_true (by omega)] at hx2
  have HX1 := Lib.hid hx1
  have HX2 := Lib.hid hx2
  have HV := Lib.hid hV
  have HNE := Lib.hid hV.ne
  have c0 := hV.2.2.2.cell 0
  have HG : Hid (Whole w.drew g 44 #[.slice (some ⟨h, 0, none⟩) D.length D.length, .int .i64 (R : Nat), .int .i64 (M : Nat)]) := Lib.hid hV.2.2.2
  have HD : Hid (w.drew.heap[h]? = some (.cells (D.map bv).toArray 5 (0, 0))) := Lib.hid hV.2.2.1
  have HB0 : Hid (Bs w.drew (fun b => b = h) (some ⟨h, 0, none⟩) D.length D) := Lib.hid (whole_bs hV.2.2.1 hD)
  have W1 : IntKind.i64.wrap ((a : Int) + (k : Int)) = (a : Int) + (k : Int) := IntWalk.i64_in _ (by omega)
  have W2 : IntKind.i64.wrap ((b : Int) + (k : Int)) = (b : Int) + (k : Int) := IntWalk.i64_in _ (by omega)
  have W3 : IntKind.i64.wrap ((R : Int) + (k : Int)) = (R : Int) + (k : Int) := IntWalk.i64_in _ (by omega)
  have W4 : IntKind.i64.wrap ((M : Int) + (k : Int)) = (M : Int) + (k : Int) := IntWalk.i64_in _ (by omega)
  obtain ⟨xs, hxs⟩ : ∃ xs, (D.drop a).take k = xs := ⟨_, rfl⟩
  have HXL : Hid (xs.length = k) := Lib.hid (by rw [← hxs]; simp; omega)
  rw [hxs]
  obtain ⟨n, hn⟩ : ∃ n, D.length = n := ⟨_, rfl⟩
  have HLEN := Lib.hid hn
  rw [hn] at c0 hD ha hb HG HB0
  have i1 : (a : Int) ≤ (n : Int) := by omega
  have i2 : (b : Int) ≤ (n : Int) := by omega
  have i3 : (a : Int) + (k : Int) ≤ (n : Int) := by omega
  have i4 : (b : Int) + (k : Int) ≤ (n : Int) := by omega
  have i5 : (a : Int) ≤ (a : Int) + (k : Int) := by omega
  have i6 : (b : Int) ≤ (b : Int) + (k : Int) := by omega
  have e5 : (a : Int) + (k : Int) - (a : Int) = (k : Int) := by omega
  have e6 : (b : Int) + (k : Int) - (b : Int) = (k : Int) := by omega
  have n5 : ((a : Int) + (k : Int)).toNat - a = k := by omega
  have n6 : ((b : Int) + (k : Int)).toNat - b = k := by omega
  have h1 : ¬ n = a := by omega
  have h2 : ¬ n = b := by omega
  have h1' : ¬ a = n := by omega
  have h2' : ¬ b = n := by omega
  have HS : Hid (0 < (xs.map bv).length → ∃ ad, (some ⟨h, a, none⟩ : Option Addr) = some ad ∧ ∀ j v, (xs.map bv)[j]? = some v → w.drew.cell? (ad.add j) = some v) := Lib.hid (by
    have h5 := (HB0.out.drop (k := a) (by omega)).take (k := k) (by omega)
    rw [Nat.zero_add, hxs] at h5
    exact h5.src)
  clear hx1 hx2 hV hn hxs
  go_enter Try.func13, Try.ntmps13
  go_wp2_with fail
  refine HX1.out.mono ?_
  rintro e w1 ⟨rfl, rfl⟩
  go_wp2_with fail
  refine HX2.out.mono ?_
  rintro e w1 ⟨rfl, rfl⟩
  go_wp2
  refine wp_region_tail 18 (by kernel_rfl) (by kernel_rfl) ?_
  simp only [List.take_succ_cons, List.take_zero, List.drop_succ_cons, List.drop_zero]
  repeat still_step
  refine wpStill_nil ?_
  refine wpList_copy_chg rfl (.tmp 29) (.tmp 38) 29 29 rfl 5 Try.underlying29 info_size5 (some ⟨h, b, none⟩) (some ⟨h, a, none⟩) k _ k _ rfl rfl h b (D.map bv) 5 HD.out (xs.map bv) (by rw [List.length_map, HXL.out]; exact (Nat.min_eq_left (Nat.le_refl _)).symm) (fun hp => ⟨rfl, HS.out hp⟩) (by rw [List.length_map, List.length_map, HXL.out, HLEN.out]; omega) oneCell_bytes ?_
  intro wx hh hc
  have HG2 := Lib.hid (hc.whole HG.out HNE.out)
  have q1 := HG2.out.cell 1
  have r1 := HG2.out.free 1
  have q2 := HG2.out.cell 2
  have r2 := HG2.out.free 2
  have HC := Lib.hid hc
  clear hc
  go_wp2
  go_ret
  refine ⟨rfl, ⟨HV.out.1, HV.out.2.1, ?_, ?_⟩, ?_⟩
  · rw [over_splice]
    exact (((show Whole _ h 5 _ from hh.out).other (p := ⟨g, 1, none⟩) (Ne.symm HNE.out) _).other (p := ⟨g, 2, none⟩) (Ne.symm HNE.out) _)
  · rw [overB_len _ _ _ (by rw [HXL.out, HLEN.out]; omega), HLEN.out]
    exact (HG2.out.put 1 _ rfl).put 2 _ (by simp)
  · exact (((Chg.refl w (fun b => b = g ∨ b = h)).drew.trans HC.out (fun k _ h2 => .inr h2)).put g 1 _ (.inl rfl)).put g 2 _ (.inl rfl)

theorem awake_any (w : World) : Calls Try.prog 5 #[] w fun e w' => e = .returned (.bool true) ∧ Below w.heap.size w w' := by
  have kc := fun (w : World) (C : Array Value) (n c : Nat) => Lib.run_convert_bytes_const (P := Try.prog) w 29 5 C n c Try.underlying29 Try.underlying5
  go_enter Try.func5, Try.ntmps5
  go_wp2_with fail
  refine (new_any 4 w (by omega)).mono ?_
  rintro e w1 ⟨g, h, rfl, hV, hb⟩
  have HV := Lib.hid hV
  have HB := Lib.hid hb
  have hpn : ∀ w', (binOp .eql 25 (.pointer (some ⟨g, 0, none⟩)) (.pointer none)).run Try.prog w' = .ok (.bool false) w' := fun w' => by kernel_rfl
  clear hV hb
  go_wp2_with fail
  have HV1 : Hid (Dv (w1.alloc (.cells #[.int .u8 97, .int .u8 98] 5 (2, 3))) w.heap.size g h (List.replicate 4 0) 0 0) := Lib.hid (HV.out.below ((Below.refl _ _).alloc (Nat.le_refl _) _))
  have HB1 := Lib.hid (HB.out.alloc HB.out.size (.cells #[.int .u8 97, .int .u8 98] 5 (2, 3)))
  have HL : Hid (Bs (w1.alloc (.cells #[.int .u8 97, .int .u8 98] 5 (2, 3))) (fun k => k = w1.heap.size) (some ⟨w1.heap.size, 0, none⟩) 2 [97, 98]) := Lib.hid (Lst.new w1 5 #[.int .u8 97, .int .u8 98] 2 rfl rfl)
  refine (write_any g h _ 0 0 2 w.heap.size _ 2 2 [97, 98] _ _ HV1.out HL.out (by simp) (by simp) (by omega)).mono ?_
  rintro e w2 ⟨rfl, hV2, hC2⟩
  have HB2 := Lib.hid (Chg.below HB1.out hC2 (fun k hk h1 => by have := HV.out.1; have := HV.out.2.1; rcases h1 with h1 | h1 <;> omega) HB1.out.size)
  rw [show overB (List.replicate 4 0) 2 [97, 98] = [0, 0, 97, 98] from rfl] at hV2
  have HV2 := Lib.hid hV2
  clear hV2 hC2 HL HV1 HB1
  go_wp2_with fail
  refine (move_any g h _ _ _ 2 1 2 w.heap.size _ HV2.out (by simp) (by simp) (by simp) (by omega) (by omega) (by omega)).mono ?_
  rintro e w3 ⟨rfl, hV3, hC3⟩
  have HB3 := Lib.hid (Chg.below HB2.out hC3 (fun k hk h1 => by have := HV.out.1; have := HV.out.2.1; rcases h1 with h1 | h1 <;> omega) HB2.out.size)
  rw [show overB [0, 0, 97, 98] 1 (([0, 0, 97, 98].drop 2).take 2) = [0, 97, 98, 98] from rfl] at hV3
  have HV3 := Lib.hid hV3
  clear hV3 hC3
  go_wp2_with fail
  refine (read_any g h _ _ _ 0 4 w.heap.size _ HV3.out (by simp) (by simp) (by omega)).mono ?_
  rintro e w4 ⟨A', c', rfl, ho, hV4, hC4⟩
  have HB4 := Lib.hid (Chg.below HB3.out hC4 (fun k hk h1 => by have := HV.out.1; omega) HB3.out.size)
  have k1 := str_of c' (Bs.of_own ho)
  rw [show (([0, 97, 98, 98] : List UInt8).drop 0).take 4 = [0, 97, 98, 98] from rfl] at k1
  clear ho hV4 hC4
  go_wp2
  go_ret
  exact ⟨rfl, HB4.out⟩
end Go.Proofs.Ytdopngelcodcnaa
