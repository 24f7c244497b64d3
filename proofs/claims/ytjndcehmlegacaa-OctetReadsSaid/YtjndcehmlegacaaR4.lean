/- Integers of a reader. -/
import Derived.Test.YtjndcehmlegacaaR3
namespace Go.Proofs.Ytjndcehmlegacaa
open Go.RowKit

def IntP (w : World) (g : Nat) (A : Option Addr) (n c q : Nat) (v : Nat) (e : Ending) (w' : World) : Prop := e = .returned (.int .u64 v) ∧ Moved w g A n c q w'
theorem int_wrong (r : Value) (N : Int) (w : World) (hN : rightW N = false) : Calls Try.prog 27 #[r, .int .i64 N] w (Threw w 1) := by
  have HR := Lib.hid (right_any N w)
  rw [hN] at HR
  clear hN
  go_enter Try.func27, Try.ntmps27
  go_wp2_with fail
  refine HR.out.mono ?_
  rintro e w1 ⟨rfl, rfl⟩
  go_wp2_with fail
  refine (check_false 1 w).mono ?_
  rintro e w2 ⟨rfl, rfl⟩
  go_wp2
  simp [bodyPost]
  exact ⟨rfl, Below.refl _ _⟩
theorem int_short (g : Nat) (A : Option Addr) (n c : Nat) (bs : List UInt8) (p k : Nat) (w : World) (h : Rdr w g A n c bs p) (hp : p ≤ n) (hk : n < p + k) (hn : n ≤ 140737488355328) (h1 : 1 ≤ k) (h8 : k ≤ 8) :
    Calls Try.prog 27 #[.pointer (some ⟨g, 0, none⟩), .int .i64 k] w (Threw w 4) := by
  have HT := Lib.hid (take_short g A n c bs p k w h hp hk hn (by omega))
  have HR := Lib.hid (right_any k w)
  rw [show rightW k = true by unfold rightW; simp; omega] at HR
  clear h
  go_enter Try.func27, Try.ntmps27
  go_wp2_with fail
  refine HR.out.mono ?_
  rintro e w1 ⟨rfl, rfl⟩
  go_wp2_with fail
  refine (check_true 1 w).mono ?_
  rintro e w2 ⟨rfl, rfl⟩
  go_wp2_with fail
  refine HT.out.mono ?_
  rintro e w2 ⟨rfl, hb⟩
  have HB := Lib.hid hb
  clear hb
  go_wp2
  simp [bodyPost, fault]
  exact ⟨rfl, HB.out⟩
theorem int_ok (g : Nat) (A : Option Addr) (n c : Nat) (bs : List UInt8) (p k : Nat) (w : World) (h : Rdr w g A n c bs p) (hp : p + k ≤ n) (hnc : n ≤ c) (hn : n ≤ 140737488355328) (hc : c ≤ 9223372036854775807) (h1 : 1 ≤ k) (h8 : k ≤ 8) :
    Calls Try.prog 27 #[.pointer (some ⟨g, 0, none⟩), .int .i64 k] w (IntP w g A n c (p + k) (num ((bs.drop p).take k))) := by
  have HT := Lib.hid (take_ok g A n c bs p k w h hp hnc hn hc)
  have HR := Lib.hid (right_any k w)
  rw [show rightW k = true by unfold rightW; simp; omega] at HR
  clear h
  obtain ⟨v, hv⟩ : ∃ v, num ((bs.drop p).take k) = v := ⟨_, rfl⟩
  rw [hv]
  have HV := Lib.hid hv
  clear hv
  go_enter Try.func27, Try.ntmps27
  go_wp2_with fail
  refine HR.out.mono ?_
  rintro e w1 ⟨rfl, rfl⟩
  go_wp2_with fail
  refine (check_true 1 w).mono ?_
  rintro e w2 ⟨rfl, rfl⟩
  go_wp2_with fail
  refine HT.out.mono ?_
  rintro e w2 ⟨A2, c2, rfl, hB, hM⟩
  have HG := Lib.hid (get_yes A2 k c2 _ _ 0 k w2 hB (by omega) h1 h8 (by omega))
  rw [List.drop_zero, List.take_of_length_le (by rw [hB.len]; exact Nat.le_refl _)] at HG
  have HM := Lib.hid hM
  clear hB hM HT
  rw [HV.out] at HG
  go_wp2_with fail
  refine HG.out.mono ?_
  rintro e w3 ⟨rfl, rfl⟩
  go_wp2
  go_ret
  exact ⟨rfl, HM.out⟩
theorem want_threw (r : Value) (N : Int) (V E c : Int) (w : World) (h : Calls Try.prog 27 #[r, .int .i64 N] w (Threw w c)) : Calls Try.prog 28 #[r, .int .i64 N, .int .u64 V, .int .i64 E] w (Threw w c) := by
  have H := Lib.hid h
  clear h
  go_enter Try.func28, Try.ntmps28
  go_wp2_with fail
  refine H.out.mono ?_
  rintro e w2 ⟨rfl, hb⟩
  have HB := Lib.hid hb
  clear hb
  go_wp2
  simp [bodyPost, fault]
  exact ⟨rfl, HB.out⟩
def WantP (w : World) (g : Nat) (A : Option Addr) (n c q : Nat) (b : Bool) (E : Int) (e : Ending) (w' : World) : Prop := e = (if b then .returned (.tuple #[]) else .panicked [{ v := fault E, recovered := false }]) ∧ Moved w g A n c q w'
theorem want_ok (g : Nat) (A : Option Addr) (n c q v : Nat) (V E N : Int) (b : Bool) (w : World) (hb : ((v : Int) == V) = b) (h : Calls Try.prog 27 #[.pointer (some ⟨g, 0, none⟩), .int .i64 N] w (IntP w g A n c q v)) :
    Calls Try.prog 28 #[.pointer (some ⟨g, 0, none⟩), .int .i64 N, .int .u64 V, .int .i64 E] w (WantP w g A n c q b E) := by
  have H := Lib.hid h
  clear h
  go_enter Try.func28, Try.ntmps28
  go_wp2_with fail
  refine H.out.mono ?_
  rintro e w2 ⟨rfl, hM⟩
  have HM := Lib.hid hM
  clear hM
  cases b
  · go_wp2_with fail
    refine (check_false E w2).mono ?_
    rintro e w3 ⟨rfl, rfl⟩
    go_wp2
    simp [bodyPost]
    exact ⟨rfl, HM.out⟩
  · go_wp2_with fail
    refine (check_true E w2).mono ?_
    rintro e w3 ⟨rfl, rfl⟩
    go_wp2
    go_end0
    exact ⟨rfl, HM.out⟩
end Go.Proofs.Ytjndcehmlegacaa
