/- The page's Parts, the page's Less. -/
import Derived.Test.YtcakcgbkcnkgeaaDoorC1
import Derived.DataElems
namespace Go.Proofs.YtcakcgbkcnkgeaaDoor
open Go.RowKit

theorem info9 : (Tryd.prog.info? 9).map (fun i => (i.zero, i.size, i.bytes)) = some (some (.string ByteArray.empty), 1, 16) := by kernel_rfl
theorem oneCell_strs (p : ByteArray) : ∀ u ∈ [Value.string p], u.oneCell' = true := by
  intro u hu
  simp only [List.mem_singleton] at hu
  subst hu; rfl
def RefP (s : ByteArray) (w : World) (e : Ending) (w' : World) : Prop := ∃ A' c', e = .returned (.slice A' (parts s).length c') ∧ w'.ownsRow w.heap.size 9 1 (.slice A' (parts s).length c') (parts s).length ((parts s).map Value.string) ∧ Below w.heap.size w w'
theorem at47 (s : ByteArray) (k : Nat) (h : k < s.size) (b : UInt8) (hb : s[k]'h = b) : s.data.toList[k]? = some b := by
  rw [List.getElem?_eq_getElem (by simpa using h)]
  rw [← hb]; rfl
set_option maxHeartbeats 2000000 in
theorem refparts_any (s : ByteArray) (w : World) (hs : s.size ≤ 1000000) : Calls Tryd.prog 17 #[.string s] w (RefP s w) := by
  obtain ⟨i0, hi, hz0, hz1, hz2⟩ := info_parts info9
  go_enter Tryd.func17, Tryd.ntmps17
  go_wp2
  go_loopw [3, 4, 5] (fun o f i wr => ∃ (k a m : Nat) (A2 : Option Addr) (c2 : Nat) (l : List ByteArray), k ≤ s.size ∧ a ≤ k ∧ m ≤ k ∧ i = .int .i64 (k : Nat) ∧ f = .int .i64 (a : Nat) ∧ o = .slice A2 m c2 ∧ Hid (wr.ownsRow w.heap.size 9 1 (.slice A2 m c2) m (l.map Value.string)) ∧ Hid (l ++ parts (s.extract a s.size) = parts s) ∧ Hid (∀ j : Nat, a ≤ j → j < k → s.data.toList[j]? ≠ some 47) ∧ Hid (Below w.heap.size w wr)) (fun _ _ i _ => s.size - (intOf i).toNat)
  case atStart => exact ⟨0, 0, 0, none, 0, [], Nat.zero_le _, Nat.le_refl _, Nat.le_refl _, rfl, rfl, rfl, Lib.hid (World.ownsRow_nil _ _ _ _), Lib.hid (by simp), Lib.hid (fun j h1 h2 => by omega), Lib.hid (Below.refl _ _)⟩
  case round =>
    obtain ⟨k, a, m, A2, c2, l, hk, hak, hmk, rfl, rfl, rfl, HO, HP, HN, HW⟩ := hrel
    by_cases hlt : k < s.size
    · have h1 : (0 : Int) ≤ (k : Int) := by omega
      have h2 : (k : Int) < (s.size : Int) := by omega
      have h3 : ((k : Int)).toNat = k := by omega
      obtain ⟨b, hb⟩ : ∃ b, s[k]'hlt = b := ⟨_, rfl⟩
      have HB := Lib.hid (at47 s k hlt b hb)
      by_cases hc : b.toNat = 47
      · have d3 : (((b.toNat : Nat) : Int) == (47 : Int)) = true := by simp; omega
        have HBV : Hid (b = 47) := Lib.hid (UInt8.toNat_inj.1 hc)
        go_wp2_with (at_builtin; refine wpList_append_list _ rfl (.tmp 16) (.tmp 21) 33 rfl w.heap.size 9 i0 (.string ByteArray.empty) 1 16 Tryd.underlying33 hi hz0 hz1 hz2 rfl (by decide) _ m _ rfl (World.ownsRow.alloc HO.out _) _ (some ⟨wr.heap.size, 0, none⟩) 1 1 [.string (s.extract a k)] rfl (Lst.new (size := 1) wr 9 #[.string (s.extract a k)] 1 rfl rfl) (oneCell_strs _) (by unfold maxLen; omega) (by omega) (by have := HW.out.size; simp; omega) ?_)
        intro A4 c4 x4 hown4 hgrow4 hat4
        have HO4 : Hid (x4.ownsRow w.heap.size 9 1 (.slice A4 (m + 1) c4) (m + 1) ((l ++ [s.extract a k]).map Value.string)) := by
          rw [List.map_append]
          exact Lib.hid hown4
        have HW4 := Lib.hid ((HW.out.alloc HW.out.size (.cells #[.string (s.extract a k)] 9)).grown hgrow4 (by have := HW.out.size; simp; omega) (fun g e => (HO.out.lt g e).1))
        clear hown4 hgrow4 hat4
        go_wp2
        have hst := parts_step s a k hak hlt (by rw [HB.out, HBV.out]) HN.out
        refine ⟨⟨k + 1, k + 1, m + 1, A4, c4, l ++ [s.extract a k], by omega, Nat.le_refl _, by omega, by simp, by simp, rfl, HO4, Lib.hid ?_, Lib.hid (fun j h1 h2 => by omega), HW4⟩, by simp only [intOf]; omega⟩
        rw [List.append_assoc, ← HP.out, hst]
        rfl
      · have d3 : (((b.toNat : Nat) : Int) == (47 : Int)) = false := by simp; omega
        have HBV : Hid (b ≠ 47) := Lib.hid (fun e => hc (by rw [e]; rfl))
        go_wp2
        refine ⟨⟨k + 1, a, m, A2, c2, l, by omega, by omega, by omega, by simp, rfl, rfl, HO, HP, Lib.hid (fun j h1 h2 => ?_), HW⟩, by simp only [intOf]; omega⟩
        by_cases e : j = k
        · subst e
          rw [HB.out]
          intro h; exact HBV.out (Option.some.inj h)
        · exact HN.out j h1 (by omega)
    · have h2 : ¬ (k : Int) < (s.size : Int) := by omega
      have hk' : k = s.size := by omega
      subst hk'
      have hak2 : a ≤ s.size := hak
      go_wp2_with (at_builtin; refine wpList_append_list _ rfl (.tmp 25) (.tmp 29) 33 rfl w.heap.size 9 i0 (.string ByteArray.empty) 1 16 Tryd.underlying33 hi hz0 hz1 hz2 rfl (by decide) _ m _ rfl (World.ownsRow.alloc HO.out _) _ (some ⟨wr.heap.size, 0, none⟩) 1 1 [.string (s.extract a s.size)] rfl (Lst.new (size := 1) wr 9 #[.string (s.extract a s.size)] 1 rfl rfl) (oneCell_strs _) (by unfold maxLen; omega) (by omega) (by have := HW.out.size; simp; omega) ?_)
      intro A4 c4 x4 hown4 hgrow4 hat4
      have hst := parts_end s a (fun j h1 h2 => by
        by_cases h : j < s.size
        · exact HN.out j h1 h h2
        · rw [List.getElem?_eq_none (by have : s.size = s.data.toList.length := by simp
                                        omega)] at h2
          cases h2)
      have hps : parts s = l ++ [s.extract a s.size] := by rw [← HP.out, hst]
      have hpl : (parts s).length = m + 1 := by
        have := str_len (Lst.of_own HO.out)
        rw [hps, List.length_append, this]; rfl
      have HO4 : Hid (x4.ownsRow w.heap.size 9 1 (.slice A4 (m + 1) c4) (m + 1) ((parts s).map Value.string)) := by
        rw [hps, List.map_append]
        exact Lib.hid hown4
      have HW4 := Lib.hid ((HW.out.alloc HW.out.size (.cells #[.string (s.extract a s.size)] 9)).grown hgrow4 (by have := HW.out.size; simp; omega) (fun g e => (HO.out.lt g e).1))
      have HPL := Lib.hid hpl
      clear hown4 hgrow4 hat4 hst hps hpl
      go_wp2
      go_ret
      refine ⟨A4, c4, ?_, ?_, HW4.out⟩
      · rw [HPL.out]; rfl
      · rw [HPL.out]; exact HO4.out
end Go.Proofs.YtcakcgbkcnkgeaaDoor
