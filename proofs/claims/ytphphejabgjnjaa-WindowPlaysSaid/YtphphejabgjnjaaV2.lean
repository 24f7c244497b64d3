/- The window: Len, All, Put, Copy. -/
import Derived.Test.YtphphejabgjnjaaV1
namespace Go.Proofs.Ytphphejabgjnjaa
open Go.RowKit

theorem info5 : (Try.prog.info? 5).map (fun i => (i.zero, i.size, i.bytes)) = some (some (.int .u8 0), 1, 1) := by kernel_rfl
theorem info_parts {P : Program} {e : TypeId} {x} (h : (P.info? e).map (fun i => (i.zero, i.size, i.bytes)) = some x) : ∃ i, P.info? e = some i ∧ i.zero = x.1 ∧ i.size = x.2.1 ∧ i.bytes = x.2.2 := by
  cases hi : P.info? e with
  | none => rw [hi] at h; cases h
  | some i => rw [hi] at h; injection h with h; subst h; exact ⟨i, rfl, rfl, rfl, rfl⟩
theorem alone_bs {w w' : World} {g n : Nat} {S : Nat → Prop} {A : Option Addr} {bs : List UInt8} (h : Bs w S A n bs) (ha : Alone w w' g) (hS : ∀ b, S b → b ≠ g) : Bs w' S A n bs := h.keep ha.size fun b hb hs => ha.2.2.2.2 b hb (hS b hs)
def wlen (all : List UInt8) : Nat := min all.length 32768
theorem len_any (g : Nat) (all : List UInt8) (w : World) (h : Wnd w g all) (hl : all.length ≤ 1000000000) : Calls Try.prog 9 #[.pointer (some ⟨g, 0, none⟩)] w fun e w' => e = .returned (.int .i64 (wlen all : Nat)) ∧ w = w' := by
  obtain ⟨c1, f1, -⟩ := h.at_
  have f2 := f1 32768
  clear h f1
  obtain ⟨n, hn⟩ : ∃ n, all.length = n := ⟨_, rfl⟩
  obtain ⟨m, hm⟩ : ∃ m, wlen all = m := ⟨_, rfl⟩
  have hmin : (if (32768 : Int) < (n : Int) then (32768 : Int) else (n : Int)) = (m : Int) := by rw [← hm]; unfold wlen; rw [hn]; split <;> omega
  have hmin2 : (if 32768 < n then (32768 : Int) else (n : Int)) = (m : Int) := by rw [← hm]; unfold wlen; rw [hn]; split <;> omega
  rw [hn] at c1 hl
  rw [hm]
  clear hn hm
  go_enter Try.func9, Try.ntmps9
  go_wp2
  go_ret
  exact ⟨rfl, rfl⟩
theorem all_any (g : Nat) (all : List UInt8) (w : World) (h : Wnd w g all) : Calls Try.prog 11 #[.pointer (some ⟨g, 0, none⟩)] w fun e w' => e = .returned (.int .i64 (all.length : Nat)) ∧ w = w' := by
  obtain ⟨c1, f1, -⟩ := h.at_
  have f2 := f1 32768
  clear h f1
  go_enter Try.func11, Try.ntmps11
  go_wp2
  go_ret
  exact ⟨rfl, rfl⟩
theorem take_snoc (l : List UInt8) (k : Nat) (h : k < l.length) : l.take (k + 1) = l.take k ++ [l.getD k 0] := by
  rw [List.take_succ_eq_append_getElem h, List.getD_eq_getElem?_getD, List.getElem?_eq_getElem h]
  rfl
theorem alone_put {w w' : World} {g : Nat} (h : Alone w w' g) (i : Nat) (u : Value) : Alone w (w'.setCell ⟨g, i, none⟩ u) g := h.put i u
set_option maxRecDepth 10000000 in
set_option maxHeartbeats 1000000 in
theorem put_any (g n c : Nat) (A : Option Addr) (all bs : List UInt8) (S : Nat → Prop) (w : World) (h : Wnd w g all) (hB : Bs w S A n bs) (hS : ∀ b, S b → b ≠ g) (hl : all.length + n ≤ 1000000000) :
    Calls Try.prog 12 #[.pointer (some ⟨g, 0, none⟩), .slice A n c] w fun e w' => e = .returned (.tuple #[]) ∧ Wnd w' g (all ++ bs) ∧ Alone w w' g := by
  have hn := hB.len
  subst hn
  have HW := Lib.hid h
  have HB := Lib.hid hB
  have HS := Lib.hid hS
  clear h hB hS
  go_enter Try.func12, Try.ntmps12
  go_wp2
  go_loopw [8] (fun i wr => ∃ k : Nat, k ≤ bs.length ∧ i = .int .i64 (k : Nat) ∧ Hid (Wnd wr g (all ++ bs.take k)) ∧ Hid (Alone w wr g)) (fun i _ => bs.length - (intOf i).toNat)
  case atStart => exact ⟨0, Nat.zero_le _, rfl, Lib.hid (by simpa using HW.out), Lib.hid (Alone.refl _ _)⟩
  case round =>
    obtain ⟨k, hk, rfl, HV, HA⟩ := hrel
    by_cases hlt : k < bs.length
    · obtain ⟨b, off, rfl, _, _, hc⟩ := (alone_bs HB.out HA.out HS.out).at_ hlt
      have HT := Lib.hid (take_snoc bs k hlt)
      generalize bs.getD k 0 = x at hc HT
      obtain ⟨c1, f1, u, c2⟩ := HV.out.at_
      have f2 := f1 32768
      have hlen : (all ++ bs.take k).length = all.length + k := by simp; omega
      obtain ⟨m, hm⟩ : ∃ m, all.length + k = m := ⟨_, rfl⟩
      rw [hm] at hlen
      rw [hlen] at c1 c2
      obtain ⟨r, hr⟩ : ∃ r, m % 32768 = r := ⟨_, rfl⟩
      have f3 := f1 r
      have e1 : (m : Int).tmod 32768 = (r : Int) := by rw [Int.tmod_eq_emod_of_nonneg (by omega)]; omega
      have e1' : (m : Int) % 32768 = (r : Int) := by omega
      have hr2 : (r : Int) < 32768 := by omega
      have hr3 : r < 32768 := by omega
      have hmb : (m : Int) ≤ 1000000000 := by omega
      have hP := HV.out.put x
      rw [hlen, hr, List.append_assoc, ← HT.out] at hP
      rw [hr] at c2
      have HP := Lib.hid hP
      have ne1 : ¬ r = 32768 := by omega
      have ne2 : ¬ 32768 = r := by omega
      clear f1 hlen hm hr hP
      go_wp2
      refine wp_region_tail 10 (by kernel_rfl) (by kernel_rfl) ?_
      simp only [List.take_succ_cons, List.take_zero, List.drop_succ_cons, List.drop_zero]
      repeat still_step
      refine wpStill_nil ?_
      go_wp2
      go_round
      case rel => exact ⟨k + 1, by omega, by go_num, HP, Lib.hid (((HA.out.drewN 1).put r (bv x)).put 32768 _)⟩
      case measure => simp [intOf]; omega
    · obtain rfl : k = bs.length := by omega
      rw [List.take_length] at HV
      go_wp2
      go_end0
      exact ⟨rfl, HV.out, HA.out⟩
end Go.Proofs.Ytphphejabgjnjaa
