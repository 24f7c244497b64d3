/- The device: Read, Cap, Move; the page's example. -/
import Derived.Test.YtdopngelcodcnaaD2
namespace Go.Proofs.Ytdopngelcodcnaa
open Go.RowKit

theorem whole_bs {w : World} {h : Nat} {D : List UInt8} (hw : Whole w h 5 (D.map bv).toArray) (hD : D.length ≤ 16777216) : Bs w (fun b => b = h) (some ⟨h, 0, none⟩) D.length D := by
  have ho : w.ownsRow h 5 1 (.slice (some ⟨h, 0, none⟩) D.length D.length) D.length (D.map bv) := own_of_heap hw (by simp) (Nat.le_refl _) (by unfold maxLen; omega)
  have hb := Bs.of_own ho
  refine ⟨hb.1, fun h0 => ?_⟩
  obtain ⟨b, off, e, h1, h2, h3⟩ := hb.2 h0
  injection e with e
  injection e with e1 e2
  subst e1 e2
  exact ⟨h, 0, rfl, h1, rfl, h3⟩
def Readd (w : World) (base g h : Nat) (D : List UInt8) (R M k : Nat) (xs : List UInt8) (e : Ending) (w' : World) : Prop :=
  ∃ A' c', e = .returned (.tuple #[.slice A' k c', .int .i64 0]) ∧ w'.ownsRow w.heap.size 5 1 (.slice A' k c') k (xs.map bv) ∧ Dv w' base g h D (R + k) M ∧ Chg w w' (fun b => b = g)
theorem read_no (g h : Nat) (D : List UInt8) (R M : Nat) (a k : Int) (base : Nat) (w : World) (hV : Dv w base g h D R M) (hD : D.length ≤ 16777216) (hk : k ≤ 9223372036854775807) (hk0 : -9223372036854775808 ≤ k) (ha : a ≤ 9223372036854775807) (ha0 : -9223372036854775808 ≤ a) (hin : inB D.length a k = false) :
    Calls Try.prog 12 #[.pointer (some ⟨g, 0, none⟩), .int .i64 a, .int .i64 k] w fun e w' => e = .returned (.tuple #[.slice none 0 0, .int .i64 2]) ∧ w = w' := by
  have hx := exists_any g h D R M a k base w hV hD hk hk0 ha ha0
  rw [hin] at hx
  have HX := Lib.hid hx
  clear hx hin hV
  go_enter Try.func12, Try.ntmps12
  go_wp2_with fail
  refine HX.out.mono ?_
  rintro e w1 ⟨rfl, rfl⟩
  go_wp2
  go_ret2
  exact ⟨rfl, rfl⟩
set_option maxHeartbeats 4000000 in
theorem read_any (g h : Nat) (D : List UInt8) (R M a k : Nat) (base : Nat) (w : World) (hV : Dv w base g h D R M) (hD : D.length ≤ 16777216) (hin : a + k ≤ D.length) (hR : R ≤ 1000000000) :
    Calls Try.prog 12 #[.pointer (some ⟨g, 0, none⟩), .int .i64 (a : Nat), .int .i64 (k : Nat)] w (Readd w base g h D R M k ((D.drop a).take k)) := by
  have hx := exists_any g h D R M (a : Nat) (k : Nat) base w hV hD (by omega) (by omega) (by omega) (by omega)
  rw [show inB D.length (a : Nat) (k : Nat) = true from decide_eq_true (by omega)] at hx
  have HX := Lib.hid hx
  have HV := Lib.hid hV
  have HNE := Lib.hid hV.ne
  have c0 := hV.2.2.2.cell 0
  have c1 := hV.2.2.2.cell 1
  have f1 := hV.2.2.2.free 1
  have HS := Lib.hid ((whole_bs hV.2.2.1 hD).put (p := ⟨g, 1, none⟩) (.int .i64 ((R : Int) + (k : Int))) (fun b hb => by rw [hb]; exact Ne.symm hV.ne))
  obtain ⟨n, hn⟩ : ∃ n, D.length = n := ⟨_, rfl⟩
  have HLEN := Lib.hid hn
  rw [hn] at c0 hD hin HS
  clear hx hV hn
  have i1 : (a : Int) ≤ (n : Int) := by omega
  have i2 : (a : Int) + (k : Int) ≤ (n : Int) := by omega
  by_cases hcp : n = a
  · subst hcp
    obtain rfl : k = 0 := by omega
    rw [List.take_zero]
    go_enter Try.func12, Try.ntmps12
    go_wp2_with fail
    refine HX.out.mono ?_
    rintro e w1 ⟨rfl, rfl⟩
    go_wp2_with fail
    refine (clone_any _ 0 0 [] (fun _ => True) _ (Bs.empty _ _ _) (by omega)).mono ?_
    rintro e w2 ⟨A', c', rfl, ho, hb⟩
    have HO := Lib.hid ho
    have HB := Lib.hid hb
    clear ho hb
    go_wp2
    go_ret2
    have hsz : ∀ u, (w.setCell ⟨g, 1, none⟩ u).heap.size = w.heap.size := fun u => by simp
    refine ⟨A', c', rfl, by have := HO.out; rwa [hsz _] at this, ⟨HV.out.1, HV.out.2.1, ?_, ?_⟩, ?_⟩
    · exact ((show Whole w h 5 _ from HV.out.2.2.1).other (p := ⟨g, 1, none⟩) (Ne.symm HNE.out) _).below' HB.out
    · exact (HV.out.2.2.2.put 1 _ (by simp)).below' HB.out
    · exact ((Chg.refl w (fun b => b = g)).put g 1 _ rfl).trans (Chg.of_below (S := fun b => b = g) HB.out) (fun k _ h2 => h2)
  · have hcp' : ¬ a = n := fun e => hcp e.symm
    have HT := Lib.hid ((HS.out.drop (k := a) (by omega)).take (k := k) (by omega))
    rw [Nat.zero_add] at HT
    go_enter Try.func12, Try.ntmps12
    go_wp2_with fail
    refine HX.out.mono ?_
    rintro e w1 ⟨rfl, rfl⟩
    go_wp2_with fail
    refine (clone_any _ k _ ((D.drop a).take k) _ _ HT.out (by omega)).mono ?_
    rintro e w2 ⟨A', c', rfl, ho, hb⟩
    have HO := Lib.hid ho
    have HB := Lib.hid hb
    clear ho hb
    go_wp2
    go_ret2
    have hsz : ∀ u, (w.setCell ⟨g, 1, none⟩ u).heap.size = w.heap.size := fun u => by simp
    refine ⟨A', c', rfl, by have := HO.out; rwa [hsz _] at this, ⟨HV.out.1, HV.out.2.1, ?_, ?_⟩, ?_⟩
    · exact ((show Whole w h 5 _ from HV.out.2.2.1).other (p := ⟨g, 1, none⟩) (Ne.symm HNE.out) _).below' HB.out
    · exact (HV.out.2.2.2.put 1 _ (by simp)).below' HB.out
    · exact ((Chg.refl w (fun b => b = g)).put g 1 _ rfl).trans (Chg.of_below (S := fun b => b = g) HB.out) (fun k _ h2 => h2)

theorem cap_any (g h : Nat) (D : List UInt8) (R M base : Nat) (w : World) (hV : Dv w base g h D R M) : Calls Try.prog 9 #[.pointer (some ⟨g, 0, none⟩)] w fun e w' => e = .returned (.int .i64 (D.length : Nat)) ∧ w = w' := by
  have c0 := hV.2.2.2.cell 0
  clear hV
  go_enter Try.func9, Try.ntmps9
  go_wp2
  go_ret
  exact ⟨rfl, rfl⟩
theorem str_of {w : World} {S : Nat → Prop} {A : Option Addr} {n : Nat} {bs : List UInt8} (c : Nat) (h : Bs w S A n bs) : (convert 29 9 (.slice A n c)).run Try.prog w = .ok (.string ⟨bs.toArray⟩) w :=
  run_string_bs 29 9 5 c Try.underlying29 Try.underlying5 Try.underlying9 h
def Alld (w : World) (base g h : Nat) (D : List UInt8) (R M : Nat) (e : Ending) (w' : World) : Prop := e = .returned (.string ⟨D.toArray⟩) ∧ Dv w' base g h D (R + D.length) M ∧ Chg w w' (fun b => b = g)
theorem all_any (g h : Nat) (D : List UInt8) (R M base : Nat) (w : World) (hV : Dv w base g h D R M) (hD : D.length ≤ 16777216) (hR : R ≤ 1000000000) : Calls Try.prog 10 #[.pointer (some ⟨g, 0, none⟩)] w (Alld w base g h D R M) := by
  have HV := Lib.hid hV
  have HC := Lib.hid (cap_any g h D R M base w hV)
  have HRD := Lib.hid (read_any g h D R M 0 D.length base w hV hD (by omega) hR)
  obtain ⟨n, hn⟩ : ∃ n, D.length = n := ⟨_, rfl⟩
  have HLEN := Lib.hid hn
  unfold Alld
  rw [hn] at HC HRD ⊢
  clear hV hn hD
  go_enter Try.func10, Try.ntmps10
  go_wp2_with fail
  refine HC.out.mono ?_
  rintro e w1 ⟨rfl, rfl⟩
  go_wp2_with fail
  refine HRD.out.mono ?_
  rintro e w2 ⟨A', c', rfl, ho, hV2, hC⟩
  have HO : Hid (Bs w2 (fun b => w.heap.size ≤ b) A' n D) := Lib.hid (by
    have h1 := Bs.of_own ho
    rwa [List.drop_zero, List.take_of_length_le (by rw [HLEN.out]; exact Nat.le_refl _)] at h1)
  have k1 := str_of c' HO.out
  have HV2 := Lib.hid hV2
  have HC2 := Lib.hid hC
  clear ho hV2 hC
  go_wp2
  go_ret
  exact ⟨rfl, HV2.out, HC2.out⟩
end Go.Proofs.Ytdopngelcodcnaa
