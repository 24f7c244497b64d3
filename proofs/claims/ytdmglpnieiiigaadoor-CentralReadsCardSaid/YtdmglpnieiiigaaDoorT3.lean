/- The page's Put. -/
import Derived.Test.YtdmglpnieiiigaaDoorT1
import Derived.Test.YtdmglpnieiiigaaDoorC0
namespace Go.Proofs.YtdmglpnieiiigaaDoor
open Go.RowKit

def fl (k : Nat) (l : List Nat) : List UInt8 := l.flatMap fun v => leB v k
theorem fl_len (k : Nat) (l : List Nat) : (fl k l).length = k * l.length := by
  induction l with
  | nil => rfl
  | cons v l ih => show (leB v k ++ fl k l).length = _; rw [List.length_append, leB_len, ih, List.length_cons, Nat.mul_succ]; omega
theorem fl_take (k : Nat) (l : List Nat) (j : Nat) (h : j < l.length) : fl k (l.take (j + 1)) = fl k (l.take j) ++ leB (l.getD j 0) k := by
  unfold fl
  rw [List.take_succ_eq_append_getElem h, List.flatMap_append, List.getD_eq_getElem?_getD, List.getElem?_eq_getElem h]
  simp only [List.flatMap_cons, List.flatMap_nil, List.append_nil, Option.getD_some]
theorem own_below {w w' : World} {base size n : Nat} {e : TypeId} {v : Value} {xs : List Value} (h : w.ownsRow base e size v n xs) (hb : Below w.heap.size w w') : w'.ownsRow base e size v n xs := by
  have hlt := h.lt
  obtain ⟨h1, h2⟩ := h
  refine ⟨h1, ?_⟩
  rcases h2 with ⟨h3, h4⟩ | ⟨g, cap, cur, hv, hb', hh, x⟩
  · exact .inl ⟨h3, h4⟩
  · subst hv
    exact .inr ⟨g, cap, cur, rfl, hb', (hb.block g (hlt g rfl).2).trans hh, x⟩
theorem own_base {w : World} {base base' size n : Nat} {e : TypeId} {v : Value} {xs : List Value} (h : w.ownsRow base e size v n xs) (hb : base' ≤ base) : w.ownsRow base' e size v n xs := by
  obtain ⟨h1, h2⟩ := h
  refine ⟨h1, ?_⟩
  rcases h2 with h3 | ⟨g, cap, cur, hv, hb', x⟩
  · exact .inl h3
  · exact .inr ⟨g, cap, cur, hv, Nat.le_trans hb hb', x⟩
def RetO (w : World) (k : Nat) (bs : List UInt8) (e : Ending) (w' : World) : Prop := ∃ A c, e = .returned (.slice A k c) ∧ w'.ownsRow w.heap.size 5 1 (.slice A k c) k (bs.map bv) ∧ Below w.heap.size w w'
def u64v (v : Nat) : Value := .int .u64 (v : Int)
set_option maxHeartbeats 1000000 in
theorem rputs_any (k : Nat) (l : List Nat) (A : Option Addr) (m c : Nat) (S : Nat → Prop) (w : World) (hk : k ≤ 8) (hv : ∀ v ∈ l, v < 18446744073709551616) (hL : Lst w S 1 A m (l.map u64v)) (hm : m ≤ 1000) :
    Calls Tryd.prog 26 #[.int .i64 (k : Nat), .slice A m c] w (RetO w (k * m) (fl k l)) := by
  obtain ⟨i0, hi, hz0, hz1, hz2⟩ : ∃ i, Tryd.prog.info? 5 = some i ∧ i.zero = some (.int .u8 0) ∧ i.size = 1 ∧ i.bytes = 1 := by
    have h := info5
    cases hi : Tryd.prog.info? 5 with
    | none => rw [hi] at h; cases h
    | some i => rw [hi] at h; injection h with h; injection h with h1 h2; injection h2 with h2 h3; exact ⟨i, rfl, h1, h2, h3⟩
  have hl : l.length = m := by have := hL.len; simpa using this
  subst hl
  have HL := Lib.hid hL
  have HV := Lib.hid hv
  clear hL hv
  go_enter Tryd.func26, Tryd.ntmps26
  go_wp2
  go_loopw [5, 6] (fun o i wr => ∃ (j q : Nat) (A2 : Option Addr) (c2 : Nat), j ≤ l.length ∧ i = .int .i64 (j : Nat) ∧ Hid (k * j = q) ∧ q ≤ 8 * j ∧ o = .slice A2 q c2 ∧ Hid (wr.ownsRow w.heap.size 5 1 (.slice A2 q c2) q ((fl k (l.take j)).map bv)) ∧ Hid (Below w.heap.size w wr)) (fun _ i _ => l.length - (intOf i).toNat)
  case atStart => exact ⟨0, 0, none, 0, Nat.zero_le _, rfl, Lib.hid (by omega), by omega, rfl, Lib.hid (World.ownsRow_nil _ _ _ _), Lib.hid (Below.refl _ _)⟩
  case round =>
    obtain ⟨j, q, A2, c2, hj, rfl, HQ, hq, rfl, HO, HB⟩ := hrel
    by_cases hlt : j < l.length
    · obtain ⟨b, off, rfl, _, _, hc⟩ := (HL.out.below HB.out).2 (by omega)
      have hc1 := hc j (u64v (l.getD j 0)) (by rw [List.getElem?_map, List.getD_eq_getElem?_getD, List.getElem?_eq_getElem hlt]; rfl)
      have HT := Lib.hid (fl_take k l j hlt)
      have hvb : l.getD j 0 < 18446744073709551616 := by
        rw [List.getD_eq_getElem?_getD, List.getElem?_eq_getElem hlt]
        exact HV.out _ (List.getElem_mem hlt)
      unfold u64v at hc1
      generalize l.getD j 0 = v at hc1 HT hvb
      have HVB := Lib.hid hvb
      clear hc hvb
      go_wp2_with fail
      refine (rbytes_any v k wr HVB.out hk).mono ?_
      rintro e w2 ⟨A3, c3, rfl, ho3, hb3⟩
      have HO2 := Lib.hid (own_below HO.out hb3)
      have HB2 := Lib.hid (HB.out.trans (hb3.mono HB.out.size))
      have HO3 := Lib.hid ho3
      clear ho3 hb3
      go_wp2_with (at_builtin; refine wpList_append_list _ rfl (.tmp 13) (.tmp 19) 33 rfl w.heap.size 5 i0 (.int .u8 0) 1 1 Tryd.underlying33 hi hz0 hz1 hz2 rfl (by decide) _ q _ rfl HO2.out _ A3 k c3 _ rfl (Lst.of_own HO3.out) oneCell_bytes (by unfold maxLen; omega) (by omega) HB2.out.size ?_)
      intro A4 c4 x4 hown4 hgrow4 hat4
      have HO4 : Hid (x4.ownsRow w.heap.size 5 1 (.slice A4 (q + k) c4) (q + k) ((fl k (l.take (j + 1))).map bv)) := Lib.hid (by rw [HT.out, List.map_append]; exact hown4)
      have HB4 := Lib.hid (HB2.out.grown hgrow4 HB2.out.size (fun g e => (HO2.out.lt g e).1))
      clear hown4 hgrow4 hat4
      go_wp2
      go_round
      case rel => exact ⟨j + 1, q + k, A4, c4, by omega, by go_num, Lib.hid (by rw [← HQ.out, Nat.mul_succ]), by omega, rfl, HO4, HB4⟩
      case measure => simp [intOf]; omega
    · obtain rfl : j = l.length := by omega
      rw [List.take_length] at HO
      go_wp2
      go_ret
      unfold RetO
      rw [HQ.out]
      exact ⟨A2, c2, rfl, HO.out, HB.out⟩
theorem fl_cat (k : Nat) (l : List Nat) : fl k l = catK k l := rfl
end Go.Proofs.YtdmglpnieiiigaaDoor
