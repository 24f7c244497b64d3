/- Steps with codes that are errors'. -/
import Derived.Test.YtmmckhkiclifjaaW8
import Derived.Deep.RegionLaw
import Derived.Deep.AppendLies
namespace Go.Proofs.Ytmmckhkiclifjaa
open Go.RowKit

def plainP (p : Int × Int) : Int × Int := (p.1, 1 + bits .and .i64 p.2 63)
def plainL (l : List (Int × Int)) : List (Int × Int) := l.map plainP
theorem plainL_code (l : List (Int × Int)) : ∀ p ∈ plainL l, 1 ≤ p.2 ∧ p.2 ≤ 64 := by
  intro p hp
  obtain ⟨q, _, rfl⟩ := List.mem_map.1 hp
  have := and63 q.2
  show 1 ≤ 1 + bits .and .i64 q.2 63 ∧ 1 + bits .and .i64 q.2 63 ≤ 64
  omega
theorem plainL_snoc (l : List (Int × Int)) (j : Nat) (h : j < l.length) : flat2 (plainL (l.take (j + 1))) = flat2 (plainL (l.take j)) ++ [.int .i64 (l.getD j (0, 0)).1, .int .i64 (1 + bits .and .i64 (l.getD j (0, 0)).2 63)] := by
  rw [List.take_succ_eq_append_getElem h, plainL, List.map_append, flat2_append, List.getD_eq_getElem?_getD, List.getElem?_eq_getElem h]
  rfl
theorem info45 : (Try.prog.info? 45).map (fun i => (i.zero, i.size, i.bytes)) = some (some (.agg #[.int .i64 0, .int .i64 0]), 2, 16) := by kernel_rfl
theorem own_cap {w : World} {base : Nat} {e : TypeId} {size n c : Nat} {A : Option Addr} {xs : List Value} (h : w.ownsRow base e size (.slice A n c) n xs) : n ≤ c ∧ c ≤ 9223372036854775807 := by
  rcases h.2 with ⟨h1, h2⟩ | ⟨g, cap, cur, h1, _, _, h2, h3, _⟩
  · injection h1 with _ _ h1
    omega
  · injection h1 with _ _ h1
    unfold maxLen at h3
    omega
def PlainPost (w : World) (n : Nat) (l : List (Int × Int)) (e : Ending) (w' : World) : Prop :=
  ∃ A' c', e = .returned (.slice A' n c') ∧ n ≤ c' ∧ c' ≤ 9223372036854775807 ∧ Ps w' (fun b => w.heap.size ≤ b) A' n (plainL l) ∧ Below w.heap.size w w'
set_option maxHeartbeats 1000000 in
theorem plain_any (A : Option Addr) (n c : Nat) (l : List (Int × Int)) (w : World) (hL : Ps w (fun b => b < w.heap.size) A n l) (hn : n ≤ 1000) :
    Calls Try.prog 8 #[.slice A n c] w (PlainPost w n l) := by
  obtain ⟨i0, hi, hz0, hz1, hz2⟩ := info_parts info45
  have HL := Lib.hid hL
  clear hL
  go_enter Try.func8, Try.ntmps8
  go_wp2
  go_loopw [3, 4] (fun o i wr => ∃ (A2 : Option Addr) (c2 j : Nat), j ≤ n ∧ o = .slice A2 j c2 ∧ i = .int .i64 j ∧ Hid (wr.ownsRow w.heap.size 45 2 (.slice A2 j c2) j (flat2 (plainL (l.take j)))) ∧ Hid (Below w.heap.size w wr)) (fun _ i _ => n - (intOf i).toNat)
  case atStart => exact ⟨none, 0, 0, Nat.zero_le _, rfl, rfl, World.ownsRow_nil _ _ _ _, Below.refl _ _⟩
  case round =>
    obtain ⟨A2, c2, j, hj, rfl, rfl, hO, hB⟩ := hrel
    by_cases hlt : j < n
    · obtain ⟨b, off, rfl, hb, hS, hc0, hc1⟩ := (HL.out.below hB.out).at_ hlt
      have HV := Lib.hid (plainL_snoc l j (by rw [HL.out.len]; exact hlt))
      generalize l.getD j (0, 0) = p at hc0 hc1 HV
      go_wp2_with fail
      have HO := Lib.hid (show wr.drew.ownsRow w.heap.size 45 2 (.slice A2 j c2) j (flat2 (plainL (l.take j))) from hO.out)
      have HB := Lib.hid (show Below w.heap.size w wr.drew from hB.out.drew)
      clear hO hB
      have HC := Lib.hid (code_any p.2)
      generalize 1 + bits .and .i64 p.2 63 = q at HV HC
      have one2 : ∀ u ∈ [Value.int .i64 p.1, Value.int .i64 q], u.oneCell' = true := by
        intro u hu
        simp at hu
        rcases hu with rfl | rfl <;> rfl
      have H2 := Lib.hid one2
      clear one2
      go_region_law (first
        | (refine step_append_lies _ rfl (.tmp 11) (.tmp 24) 22 rfl w.heap.size 45 i0 (.agg #[.int .i64 0, .int .i64 0]) 2 16 Try.underlying22 hi hz0 hz1 hz2 rfl (by decide) _ j _ rfl (HO.out.alloc _) ⟨wr.heap.size, 0, none⟩ 1 1 [.int .i64 p.1, .int .i64 q] rfl rfl (World.news_of_block (cs := #[.int .i64 p.1, .int .i64 q]) (heap_alloc_new _ _)) H2.out (by decide) (by unfold maxLen; omega) (by omega) (by have := HB.out.size; simp at this ⊢; omega) _ rfl ?_
           intro A3 c3 x3 hown3 hgrow3 hat3 hlt3)
        | (go_simp; go_at_call 20; refine (HC.out _).mono ?_; rintro e w1 ⟨rfl, rfl⟩))
      all_goals
        have HO3 : Hid (x3.ownsRow w.heap.size 45 2 (.slice (some ⟨A3, 0, none⟩) (j + 1) c3) (j + 1) (flat2 (plainL (l.take (j + 1))))) := by
          rw [HV.out]
          exact Lib.hid hown3
        have HW3 := Lib.hid ((HB.out.alloc HB.out.size _).grown hgrow3 (by have := HB.out.size; simp at this ⊢; omega) (fun g e => (HO.out.lt g e).1))
        clear hown3 hgrow3 hat3 hlt3 HV H2 HO HB
        go_wp2
        exact ⟨⟨some ⟨A3, 0, none⟩, c3, j + 1, by omega, rfl, by go_num, HO3, HW3⟩, by simp [intOf]; omega⟩
    · obtain rfl : j = n := by omega
      go_wp2
      go_ret
      refine ⟨A2, c2, rfl, (own_cap hO.out).1, (own_cap hO.out).2, ?_, hB.out⟩
      have h := Lst.of_own hO.out
      rw [List.take_of_length_le (by rw [HL.out.len]; exact Nat.le_refl _)] at h
      exact h
end Go.Proofs.Ytmmckhkiclifjaa
