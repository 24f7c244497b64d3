/- The page's Sorted and Codes. -/
import Derived.Test.YtfbfbkgpcpidcaaC9
namespace Go.Proofs.Ytfbfbkgpcpidcaa
open Go.RowKit

def natI (l : List Nat) : List Int := l.map fun (i : Nat) => (i : Int)
theorem blk_step (ns : List Int) (K j : Nat) : (List.range (j + 1)).filter (isN ns K) = (List.range j).filter (isN ns K) ++ (if isN ns K j = true then [j] else []) := by
  rw [List.range_succ, List.filter_append]
  congr 1
  by_cases h : isN ns K j = true
  · simp [h]
  · simp [h]
def Srt (ns : List Int) (w : World) (e : Ending) (w' : World) : Prop :=
  ∃ A' c', e = .returned (.slice A' (srt ns 15).length c') ∧ w'.ownsRow w.heap.size 3 1 (.slice A' (srt ns 15).length c') (srt ns 15).length ((natI (srt ns 15)).map (Value.int .i64)) ∧ Below w.heap.size w w'
theorem filt_le (p : Nat → Bool) (j : Nat) : ((List.range j).filter p).length ≤ j := by
  have := List.length_filter_le p (List.range j)
  simpa using this
theorem srt_le (ns : List Int) (K : Nat) : (srt ns K).length ≤ K * ns.length := by
  induction K with
  | zero => simp [srt]
  | succ K ih =>
    have := filt_le (isN ns K) ns.length
    rw [srt, List.length_append, Nat.succ_mul]
    unfold blk
    omega
set_option maxHeartbeats 1000000 in
theorem sref_any (A : Option Addr) (n c : Nat) (ns : List Int) (S : Nat → Prop) (w : World) (hL : Lst w S 1 A n (ns.map (Value.int .i64))) (hb : Big ns) (hl : n ≤ 1000000) :
    Calls Try.prog 12 #[.slice A n c] w (Srt ns w) := by
  obtain ⟨i0, hi, hz0, hz1, hz2⟩ := info_parts info3
  have hn : ns.length = n := by have := hL.len; simpa using this
  subst hn
  have HL := Lib.hid hL
  have HBG := Lib.hid hb
  clear hL hb
  go_enter Try.func12, Try.ntmps12
  go_wp2
  go_loopw [3, 4] (fun o i wr => ∃ (K m : Nat) (A2 : Option Addr) (c2 : Nat), K ≤ 15 ∧ i = .int .i64 ((K : Int) + 1) ∧ Hid ((srt ns K).length = m) ∧ o = .slice A2 m c2 ∧ Hid (wr.ownsRow w.heap.size 3 1 (.slice A2 m c2) m ((natI (srt ns K)).map (Value.int .i64))) ∧ Hid (Below w.heap.size w wr)) (fun _ i _ => 16 - (intOf i).toNat)
  case atStart => exact ⟨0, 0, none, 0, by omega, rfl, Lib.hid rfl, rfl, Lib.hid (by simp [World.ownsRow, srt, natI]), Lib.hid (Below.refl _ _)⟩
  case round =>
    obtain ⟨K, m, A2, c2, hK, rfl, HM, rfl, HO, HW⟩ := hrel
    by_cases hlt : K < 15
    · have x15 : decide ((K : Int) + 1 ≤ 15) = true := by simp; omega
      go_wp2
      go_loopw [3, 5] (fun o i wr => ∃ (j m : Nat) (A2 : Option Addr) (c2 : Nat), j ≤ ns.length ∧ i = .int .i64 (j : Nat) ∧ Hid ((srt ns K).length + ((List.range j).filter (isN ns K)).length = m) ∧ o = .slice A2 m c2 ∧ Hid (wr.ownsRow w.heap.size 3 1 (.slice A2 m c2) m ((natI (srt ns K ++ (List.range j).filter (isN ns K))).map (Value.int .i64))) ∧ Hid (Below w.heap.size w wr)) (fun _ i _ => ns.length - (intOf i).toNat)
      case atStart => exact ⟨0, m, A2, c2, Nat.zero_le _, rfl, Lib.hid (by rw [HM.out]; rfl), rfl, Lib.hid (by simpa using HO.out), HW⟩
      case round =>
        obtain ⟨j, m, A2, c2, hj, rfl, HM, rfl, HO, HW⟩ := hrel
        by_cases hlj : j < ns.length
        · obtain ⟨b, off, rfl, hbl, _, hc⟩ := (HL.out.below HW.out).int_at hlj
          obtain ⟨d1, d2⟩ := HBG.out.get j
          have HST := Lib.hid (blk_step ns K j)
          have hmb : m ≤ 16000000 := by
            rw [← HM.out]
            have h1 := srt_le ns K
            have h2 := filt_le (isN ns K) j
            have h3 : K * ns.length ≤ 15 * 1000000 := Nat.mul_le_mul (by omega) (by omega)
            omega
          by_cases hv : ns.getD j 0 = ((K + 1 : Nat) : Int)
          · have HI : Hid (isN ns K j = true) := Lib.hid (by unfold isN; exact decide_eq_true hv)
            rw [hv] at hc
            clear hv d1 d2
            go_wp2_with (at_builtin; refine wpList_append_list _ rfl (.tmp 22) (.tmp 24) 22 rfl w.heap.size 3 i0 (.int .i64 0) 1 8 Try.underlying22 hi hz0 hz1 hz2 rfl (by decide) _ m _ rfl (World.ownsRow.alloc HO.out _) _ (some ⟨wr.heap.size, 0, none⟩) 1 1 [.int .i64 (j : Nat)] rfl (Lst.new wr 3 #[.int .i64 (j : Nat)] 1 rfl rfl) (by simp [Value.oneCell']) (by unfold maxLen; omega) (by omega) (by have := HW.out.size; simp; omega) ?_)
            intro A4 c4 x4 hown4 hgrow4 hat4
            have HO4 : Hid (x4.ownsRow w.heap.size 3 1 (.slice A4 (m + 1) c4) (m + 1) ((natI (srt ns K ++ (List.range (j + 1)).filter (isN ns K))).map (Value.int .i64))) := by
              rw [HST.out, if_pos HI.out, ← List.append_assoc]
              exact Lib.hid (by simpa [natI] using hown4)
            have HW4 := Lib.hid ((HW.out.alloc HW.out.size _).grown hgrow4 (by have := HW.out.size; simp; omega) (fun g e => (HO.out.lt g e).1))
            clear hown4 hgrow4 hat4
            go_wp2
            go_round
            case rel => exact ⟨j + 1, m + 1, A4, c4, by omega, by go_num, Lib.hid (by rw [HST.out, if_pos HI.out, List.length_append, ← Nat.add_assoc, HM.out]; rfl), rfl, HO4, HW4⟩
            case measure => simp [intOf]; omega
          · have HI : Hid (isN ns K j = false) := Lib.hid (by unfold isN; exact decide_eq_false hv)
            generalize ns.getD j 0 = v at *
            have x1 : (v == (K : Int) + 1) = false := by simp; omega
            clear hv
            go_wp2
            go_round
            case rel => exact ⟨j + 1, m, A2, c2, by omega, by go_num, Lib.hid (by rw [HST.out, HI.out]; simpa using HM.out), rfl, Lib.hid (by rw [HST.out, HI.out]; simpa using HO.out), HW⟩
            case measure => simp [intOf]; omega
        · obtain rfl : j = ns.length := by omega
          go_wp2
          go_round
          case rel => exact ⟨K + 1, m, A2, c2, by omega, by go_num, Lib.hid (by rw [srt, List.length_append]; exact HM.out), rfl, HO, HW⟩
          case measure => simp [intOf]; omega
    · obtain rfl : K = 15 := by omega
      go_wp2
      go_ret
      rw [← HM.out] at HO ⊢
      exact ⟨A2, c2, rfl, HO.out, HW.out⟩
end Go.Proofs.Ytfbfbkgpcpidcaa
