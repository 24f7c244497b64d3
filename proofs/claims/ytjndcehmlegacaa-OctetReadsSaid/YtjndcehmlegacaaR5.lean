/- A call of a reader. -/
import Derived.Test.YtjndcehmlegacaaR4
namespace Go.Proofs.Ytjndcehmlegacaa
open Go.RowKit

def rbad (K N : Int) : Bool := decide (N < 0 ∨ (K ≠ 0 ∧ (N < 1 ∨ 8 < N)))
/-- What a call gives: the code, the bytes, the place behind. -/
def rres (bs : List UInt8) (n p : Nat) (K N : Int) (V : Nat) : Option Int × List UInt8 × Nat :=
  if rbad K N then (some 1, [], p)
  else if (n : Int) - p < N then (some 4, [], p)
  else if K = 0 then (none, (bs.drop p).take N.toNat, p + N.toNat)
  else if K = 1 then (none, leB (num ((bs.drop p).take N.toNat)) 8, p + N.toNat)
  else if num ((bs.drop p).take N.toNat) = V then (none, [], p + N.toNat)
  else (some 35, [], p + N.toNat)
def ThrM (w : World) (g : Nat) (A : Option Addr) (n c q : Nat) (code : Int) (e : Ending) (w' : World) : Prop := e = .panicked [{ v := fault code, recovered := false }] ∧ Moved w g A n c q w'
def Clo (w : World) (g : Nat) (A : Option Addr) (n c : Nat) (r : Option Int × List UInt8 × Nat) : Ending → World → Prop := match r.1 with
  | none => NewP w g A n c r.2.2 r.2.1.length r.2.1
  | some code => ThrM w g A n c r.2.2 code
theorem Clo_none (w : World) (g : Nat) (A : Option Addr) (n c : Nat) (xs : List UInt8) (q : Nat) : Clo w g A n c (none, xs, q) = NewP w g A n c q xs.length xs := rfl
theorem Clo_some (w : World) (g : Nat) (A : Option Addr) (n c : Nat) (k : Int) (xs : List UInt8) (q : Nat) : Clo w g A n c (some k, xs, q) = ThrM w g A n c q k := rfl
theorem Threw.thrM {w w' : World} {g n c p : Nat} {A : Option Addr} {bs : List UInt8} {k : Int} {e : Ending} (h : Rdr w g A n c bs p) (t : Threw w k e w') : ThrM w g A n c p k e w' := ⟨t.1, Moved.of_below h t.2⟩
section
variable (g : Nat) (A : Option Addr) (n c : Nat) (bs : List UInt8) (p : Nat) (bc br : Nat) (K N : Int) (V : Nat) (w : World)
theorem clo_zero (r : Option Int × List UInt8 × Nat) (hc : Whole w bc 43 #[.int .i64 0, .int .i64 N, .int .u64 V]) (hr : Whole w br 40 #[.pointer (some ⟨g, 0, none⟩)]) (h : Calls Try.prog 26 #[.pointer (some ⟨g, 0, none⟩), .int .i64 N] w (Clo w g A n c r)) :
    Calls Try.prog 25 #[.pointer (some ⟨bc, 0, none⟩), .pointer (some ⟨br, 0, none⟩)] w (Clo w g A n c r) := by
  have H := Lib.hid h
  have c0 := hc.cell 0
  have f0 := hc.free 0
  have c1 := hc.cell 1
  have f1 := hc.free 1
  have c2 := hr.cell 0
  have f2 := hr.free 0
  clear h hc hr
  obtain ⟨o, xs, q⟩ := r
  cases o with
  | none =>
    rw [Clo_none] at H ⊢
    go_enter Try.func25, Try.ntmps25
    go_wp2_with fail
    refine H.out.mono ?_
    rintro e w2 ⟨A2, c2, rfl, hB, hM⟩
    have HB := Lib.hid hB
    have HM := Lib.hid hM
    clear hB hM
    go_wp2
    go_ret
    exact ⟨_, _, rfl, HB.out, HM.out⟩
  | some k =>
    rw [Clo_some] at H ⊢
    go_enter Try.func25, Try.ntmps25
    go_wp2_with fail
    refine H.out.mono ?_
    rintro e w2 ⟨rfl, hM⟩
    have HM := Lib.hid hM
    clear hM
    go_wp2
    simp [bodyPost]
    exact ⟨rfl, HM.out⟩
theorem clo_one_thr (k : Int) (q : Nat) (hc : Whole w bc 43 #[.int .i64 1, .int .i64 N, .int .u64 V]) (hr : Whole w br 40 #[.pointer (some ⟨g, 0, none⟩)]) (h : Calls Try.prog 27 #[.pointer (some ⟨g, 0, none⟩), .int .i64 N] w (ThrM w g A n c q k)) :
    Calls Try.prog 25 #[.pointer (some ⟨bc, 0, none⟩), .pointer (some ⟨br, 0, none⟩)] w (ThrM w g A n c q k) := by
  have H := Lib.hid h
  have c0 := hc.cell 0
  have f0 := hc.free 0
  have c1 := hc.cell 1
  have f1 := hc.free 1
  have c2 := hr.cell 0
  have f2 := hr.free 0
  clear h hc hr
  go_enter Try.func25, Try.ntmps25
  go_wp2_with fail
  refine H.out.mono ?_
  rintro e w2 ⟨rfl, hM⟩
  have HM := Lib.hid hM
  clear hM
  go_wp2
  simp [bodyPost]
  exact ⟨rfl, HM.out⟩
theorem clo_one_ok (q v : Nat) (hv : v < 18446744073709551616) (hc : Whole w bc 43 #[.int .i64 1, .int .i64 N, .int .u64 V]) (hr : Whole w br 40 #[.pointer (some ⟨g, 0, none⟩)]) (h : Calls Try.prog 27 #[.pointer (some ⟨g, 0, none⟩), .int .i64 N] w (IntP w g A n c q v)) :
    Calls Try.prog 25 #[.pointer (some ⟨bc, 0, none⟩), .pointer (some ⟨br, 0, none⟩)] w (NewP w g A n c q 8 (leB v 8)) := by
  have H := Lib.hid h
  have c0 := hc.cell 0
  have f0 := hc.free 0
  have c1 := hc.cell 1
  have f1 := hc.free 1
  have c2 := hr.cell 0
  have f2 := hr.free 0
  clear h hc hr
  go_enter Try.func25, Try.ntmps25
  go_wp2_with fail
  refine H.out.mono ?_
  rintro e w2 ⟨rfl, hM⟩
  have HM := Lib.hid hM
  clear hM
  go_wp2_with fail
  refine (rbytes_any v 8 w2 hv (by omega)).mono ?_
  rintro e w3 ⟨A3, c3, rfl, ho, hb⟩
  have HB := Lib.hid ((Bs.of_own ho).mono fun b (hb : w2.heap.size ≤ b) => Nat.le_trans HM.out.1.size hb)
  have HM3 := Lib.hid (HM.out.then hb)
  clear ho hb HM
  go_wp2
  go_ret
  exact ⟨_, _, rfl, HB.out, HM3.out⟩
theorem clo_two (b : Bool) (q : Nat) (e0 : (K == 0) = false) (e1 : (K == 1) = false) (hc : Whole w bc 43 #[.int .i64 K, .int .i64 N, .int .u64 V]) (hr : Whole w br 40 #[.pointer (some ⟨g, 0, none⟩)]) (h : Calls Try.prog 28 #[.pointer (some ⟨g, 0, none⟩), .int .i64 N, .int .u64 V, .int .i64 35] w (WantP w g A n c q b 35)) :
    Calls Try.prog 25 #[.pointer (some ⟨bc, 0, none⟩), .pointer (some ⟨br, 0, none⟩)] w (Clo w g A n c (if b then none else some 35, [], q)) := by
  have H := Lib.hid h
  have c0 := hc.cell 0
  have f0 := hc.free 0
  have c1 := hc.cell 1
  have f1 := hc.free 1
  have c3 := hc.cell 2
  have f3 := hc.free 2
  have c2 := hr.cell 0
  have f2 := hr.free 0
  clear h hc hr
  cases b with
  | true =>
    show Calls _ _ _ _ (Clo w g A n c (none, [], q))
    rw [Clo_none]
    go_enter Try.func25, Try.ntmps25
    go_wp2_with fail
    refine H.out.mono ?_
    rintro e w2 ⟨rfl, hM⟩
    have HM := Lib.hid hM
    clear hM
    go_wp2
    go_ret
    exact ⟨none, 0, rfl, Bs.empty _ _ _, HM.out⟩
  | false =>
    show Calls _ _ _ _ (Clo w g A n c (some 35, [], q))
    rw [Clo_some]
    go_enter Try.func25, Try.ntmps25
    go_wp2_with fail
    refine H.out.mono ?_
    rintro e w2 ⟨rfl, hM⟩
    have HM := Lib.hid hM
    clear hM
    go_wp2
    simp [bodyPost]
    exact ⟨rfl, HM.out⟩
theorem clo_two_thr (k : Int) (e0 : (K == 0) = false) (e1 : (K == 1) = false) (hR : Rdr w g A n c bs p) (hc : Whole w bc 43 #[.int .i64 K, .int .i64 N, .int .u64 V]) (hr : Whole w br 40 #[.pointer (some ⟨g, 0, none⟩)]) (h : Calls Try.prog 28 #[.pointer (some ⟨g, 0, none⟩), .int .i64 N, .int .u64 V, .int .i64 35] w (Threw w k)) :
    Calls Try.prog 25 #[.pointer (some ⟨bc, 0, none⟩), .pointer (some ⟨br, 0, none⟩)] w (ThrM w g A n c p k) := by
  have H := Lib.hid h
  have HR := Lib.hid hR
  have c0 := hc.cell 0
  have f0 := hc.free 0
  have c1 := hc.cell 1
  have f1 := hc.free 1
  have c3 := hc.cell 2
  have f3 := hc.free 2
  have c2 := hr.cell 0
  have f2 := hr.free 0
  clear h hc hr hR
  go_enter Try.func25, Try.ntmps25
  go_wp2_with fail
  refine H.out.mono ?_
  rintro e w2 ⟨rfl, hM⟩
  have HM := Lib.hid (Moved.of_below HR.out hM)
  clear hM
  go_wp2
  simp [bodyPost]
  exact ⟨rfl, HM.out⟩
end
end Go.Proofs.Ytjndcehmlegacaa
