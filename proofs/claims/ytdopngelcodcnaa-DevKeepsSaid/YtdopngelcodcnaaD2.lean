/- The device: Write, Read, Cap. -/
import Derived.Test.YtdopngelcodcnaaD1
namespace Go.Proofs.Ytdopngelcodcnaa
open Go.RowKit

theorem over_splice (D bs : List UInt8) (a : Nat) : (overB D a bs).map bv = splice (D.map bv) a (bs.map bv) := by simp [overB, splice]
def Wrote (w : World) (base g h : Nat) (D : List UInt8) (R M : Nat) (e : Ending) (w' : World) : Prop := e = .returned (.int .i64 0) ∧ Dv w' base g h D R M ∧ Chg w w' (fun b => b = g ∨ b = h)
theorem write_no (g h : Nat) (D : List UInt8) (R M : Nat) (a : Int) (base : Nat) (B : Option Addr) (m d : Nat) (w : World) (hV : Dv w base g h D R M) (hD : D.length ≤ 16777216) (hm : m ≤ 1000000) (ha : a ≤ 9223372036854775807) (ha0 : -9223372036854775808 ≤ a) (hin : inB D.length a m = false) :
    Calls Try.prog 11 #[.pointer (some ⟨g, 0, none⟩), .int .i64 a, .slice B m d] w fun e w' => e = .returned (.int .i64 2) ∧ w = w' := by
  have hx := exists_any g h D R M a (m : Nat) base w hV hD (by omega) (by omega) ha ha0
  rw [hin] at hx
  have HX := Lib.hid hx
  clear hx hin hV
  go_enter Try.func11, Try.ntmps11
  go_wp2_with fail
  refine HX.out.mono ?_
  rintro e w1 ⟨rfl, rfl⟩
  go_wp2
  go_ret
  exact ⟨rfl, rfl⟩
set_option maxHeartbeats 4000000 in
theorem write_any (g h : Nat) (D : List UInt8) (R M a : Nat) (base : Nat) (B : Option Addr) (m d : Nat) (bs : List UInt8) (S : Nat → Prop) (w : World) (hV : Dv w base g h D R M) (hB : Bs w S B m bs) (hD : D.length ≤ 16777216) (hin : a + m ≤ D.length) (hM : M ≤ 1000000000) :
    Calls Try.prog 11 #[.pointer (some ⟨g, 0, none⟩), .int .i64 (a : Nat), .slice B m d] w (Wrote w base g h (overB D a bs) R (M + m)) := by
  have hx := exists_any g h D R M (a : Nat) (m : Nat) base w hV hD (by omega) (by omega) (by omega) (by omega)
  rw [show inB D.length (a : Nat) (m : Nat) = true from decide_eq_true (by omega)] at hx
  have HX := Lib.hid hx
  have HV := Lib.hid hV
  have HNE := Lib.hid hV.ne
  have c0 := hV.2.2.2.cell 0
  have c2 := hV.2.2.2.cell 2
  have f2 := hV.2.2.2.free 2
  have HG : Hid (Whole w.drew g 44 #[.slice (some ⟨h, 0, none⟩) D.length D.length, .int .i64 (R : Nat), .int .i64 (M : Nat)]) := Lib.hid hV.2.2.2
  have HD : Hid (w.drew.heap[h]? = some (.cells (D.map bv).toArray 5 (0, 0))) := Lib.hid hV.2.2.1
  have HS : Hid (0 < (bs.map bv).length → ∃ ad, B = some ad ∧ ∀ j v, (bs.map bv)[j]? = some v → w.drew.cell? (ad.add j) = some v) := Lib.hid hB.src
  have hbl := hB.len
  have HBL := Lib.hid hbl
  have hbl2 : goInt ((bs.map bv).length) = .int .i64 (m : Nat) := by rw [List.length_map, hbl]; rfl
  obtain ⟨n, hn⟩ : ∃ n, D.length = n := ⟨_, rfl⟩
  have HLEN := Lib.hid hn
  rw [hn] at c0 hD hin HG
  clear hx hV hB hbl hn
  have i1 : (a : Int) ≤ (n : Int) := by omega
  by_cases hcp : n = a
  · subst hcp
    obtain rfl : m = 0 := by omega
    go_enter Try.func11, Try.ntmps11
    go_wp2_with fail
    refine HX.out.mono ?_
    rintro e w1 ⟨rfl, rfl⟩
    go_wp2
    go_region_law (first
      | (refine step_copy_chg rfl (.tmp 22) (.tmp 23) 29 29 rfl 5 Try.underlying29 info_size5 (some ⟨h, 0, none⟩) B (0) (0) 0 d rfl rfl h n (D.map bv) 5 HD.out (bs.map bv) (by rw [List.length_map, HBL.out]; exact (Nat.min_eq_left (by omega)).symm) (fun hp => by rw [List.length_map, HBL.out] at hp; omega) (by rw [List.length_map, List.length_map, HBL.out, HLEN.out]; omega) oneCell_bytes ?_
         intro wx hh hc
         have HG2 := Lib.hid (hc.whole HG.out HNE.out)
         have q0 := HG2.out.cell 2
         have q1 := HG2.out.free 2
         have HC := Lib.hid hc
         have HBL2 := Lib.hid hbl2
         rw [HBL2.out]))
    all_goals
      go_wp2
      go_ret
      refine ⟨rfl, ⟨HV.out.1, HV.out.2.1, ?_, ?_⟩, ?_⟩
      · rw [over_splice]
        exact ((show Whole _ h 5 _ from hh.out).other (p := ⟨g, 2, none⟩) (Ne.symm HNE.out) _)
      · rw [overB_len _ _ _ (by rw [HBL.out, HLEN.out]; omega), HLEN.out]
        exact (HG2.out.put 2 _ (by simp <;> (try exact IntWalk.i64_in _ (by omega))))
      · exact ((Chg.refl w _).drew.trans HC.out (fun k _ h2 => .inr h2)).put g 2 _ (.inl rfl)
  · have hcp' : ¬ a = n := fun e => hcp e.symm
    obtain ⟨l2, hl2⟩ : ∃ l2, n - a = l2 := ⟨_, rfl⟩
    go_enter Try.func11, Try.ntmps11
    go_wp2_with fail
    refine HX.out.mono ?_
    rintro e w1 ⟨rfl, rfl⟩
    go_wp2
    go_region_law (first
      | (refine step_copy_chg rfl (.tmp 22) (.tmp 23) 29 29 rfl 5 Try.underlying29 info_size5 (some ⟨h, a, none⟩) B (l2) (l2) m d rfl rfl h a (D.map bv) 5 HD.out (bs.map bv) (by rw [List.length_map, HBL.out]; exact (Nat.min_eq_left (by omega)).symm) (fun hp => ⟨rfl, HS.out hp⟩) (by rw [List.length_map, List.length_map, HBL.out, HLEN.out]; omega) oneCell_bytes ?_
         intro wx hh hc
         have HG2 := Lib.hid (hc.whole HG.out HNE.out)
         have q0 := HG2.out.cell 2
         have q1 := HG2.out.free 2
         have HC := Lib.hid hc
         have HBL2 := Lib.hid hbl2
         rw [HBL2.out]))
    all_goals
      go_wp2
      go_ret
      refine ⟨rfl, ⟨HV.out.1, HV.out.2.1, ?_, ?_⟩, ?_⟩
      · rw [over_splice]
        exact ((show Whole _ h 5 _ from hh.out).other (p := ⟨g, 2, none⟩) (Ne.symm HNE.out) _)
      · rw [overB_len _ _ _ (by rw [HBL.out, HLEN.out]; omega), HLEN.out]
        exact (HG2.out.put 2 _ (by simp <;> (try exact IntWalk.i64_in _ (by omega))))
      · exact ((Chg.refl w _).drew.trans HC.out (fun k _ h2 => .inr h2)).put g 2 _ (.inl rfl)

end Go.Proofs.Ytdopngelcodcnaa
