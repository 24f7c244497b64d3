/- The symbols that have codes, by their lengths, then by their numbers. -/
import Derived.Test.YtfbfbkgpcpidcaaC2
namespace Go.Proofs.Ytfbfbkgpcpidcaa
open Go.RowKit

def isN (ns : List Int) (k i : Nat) : Bool := decide (ns.getD i 0 = ((k + 1 : Nat) : Int))
def blk (ns : List Int) (k : Nat) : List Nat := (List.range ns.length).filter (isN ns k)
def srt (ns : List Int) : Nat → List Nat
  | 0 => []
  | K + 1 => srt ns K ++ blk ns K
theorem filt_cnt (ns : List Int) (k j : Nat) (h : j ≤ ns.length) : ((((List.range j).filter (isN ns k)).length : Nat) : Int) = cnt (ns.take j) (k + 1) := by
  induction j with
  | zero => simp [cnt]
  | succ j ih =>
    rw [cnt_take ns j _ (by omega), ← ih (by omega), List.range_succ, List.filter_append, List.length_append]
    by_cases e : ns.getD j 0 = ((k + 1 : Nat) : Int)
    · have hb : isN ns k j = true := decide_eq_true e
      rw [if_pos e, List.filter_cons, hb]
      simp
    · have hb : isN ns k j = false := decide_eq_false e
      rw [if_neg e, List.filter_cons, hb]
      simp
theorem blk_len (ns : List Int) (k : Nat) : (((blk ns k).length : Nat) : Int) = cnt ns (k + 1) := by
  have := filt_cnt ns k ns.length (Nat.le_refl _)
  rwa [List.take_length] at this
theorem srt_len (ns : List Int) (K : Nat) : (((srt ns K).length : Nat) : Int) = codesTo ns K := by
  induction K with
  | zero => rfl
  | succ K ih => rw [srt, List.length_append, codesTo, ← ih, ← blk_len]; simp
theorem filt_at (p : Nat → Bool) (n i : Nat) (hi : i < n) (hp : p i = true) : ((List.range n).filter p)[((List.range i).filter p).length]? = some i := by
  obtain ⟨m, rfl⟩ : ∃ m, n = i + 1 + m := ⟨n - (i + 1), by omega⟩
  rw [List.range_add, List.range_succ, List.filter_append, List.filter_append]
  rw [List.getElem?_append_left (by simp [hp]), List.getElem?_append_right (Nat.le_refl _)]
  simp [hp]
theorem srt_pre (ns : List Int) (k m : Nat) : ∃ r, srt ns (k + m) = srt ns k ++ r := by
  induction m with
  | zero => exact ⟨[], by simp⟩
  | succ m ih =>
    obtain ⟨r, hr⟩ := ih
    exact ⟨r ++ blk ns (k + m), by rw [← Nat.add_assoc, srt, hr, List.append_assoc]⟩
/-- Where symbol i lies. -/
theorem srt_at (ns : List Int) (K k i : Nat) (hk : k < K) (hi : i < ns.length) (hn : ns.getD i 0 = ((k + 1 : Nat) : Int)) :
    (srt ns K)[(srt ns k).length + ((List.range i).filter (isN ns k)).length]? = some i := by
  obtain ⟨m, rfl⟩ : ∃ m, K = k + 1 + m := ⟨K - (k + 1), by omega⟩
  obtain ⟨r, hr⟩ := srt_pre ns (k + 1) m
  have h1 := filt_at (isN ns k) ns.length i hi (by simp only [isN, decide_eq_true_eq]; exact hn)
  have h2 : ((List.range i).filter (isN ns k)).length < (blk ns k).length := by
    rcases Nat.lt_or_ge ((List.range i).filter (isN ns k)).length (blk ns k).length with h | h
    · exact h
    · unfold blk at h
      rw [List.getElem?_eq_none h] at h1
      cases h1
  rw [hr, srt, List.append_assoc, List.getElem?_append_right (by omega), Nat.add_sub_cancel_left, List.getElem?_append_left h2]
  exact h1
theorem srt_mem (ns : List Int) (K i : Nat) (h : i ∈ srt ns K) : i < ns.length ∧ 1 ≤ ns.getD i 0 ∧ ns.getD i 0 ≤ K := by
  induction K with
  | zero => cases h
  | succ K ih =>
    rw [srt, List.mem_append] at h
    rcases h with h | h
    · have := ih h
      omega
    · rw [blk, List.mem_filter, List.mem_range, isN, decide_eq_true_eq] at h
      omega
theorem srt_nodup (ns : List Int) (K : Nat) : (srt ns K).Nodup := by
  induction K with
  | zero => exact List.nodup_nil
  | succ K ih =>
    rw [srt, List.nodup_append]
    refine ⟨ih, List.Pairwise.filter _ List.nodup_range, fun a ha b hb e => ?_⟩
    subst e
    have h1 := srt_mem ns K a ha
    rw [blk, List.mem_filter, isN, decide_eq_true_eq] at hb
    omega
/-- The list, as far as the first j symbols have been put. -/
def putTo (t : List Nat) (j : Nat) : List Int := t.map fun i => if i < j then (i : Int) else 0
theorem putTo_len (t : List Nat) (j : Nat) : (putTo t j).length = t.length := by simp [putTo]
theorem putTo_zero (t : List Nat) : putTo t 0 = List.replicate t.length 0 := by
  apply List.ext_getElem
  · simp [putTo]
  · intro i h1 h2; simp [putTo]
theorem putTo_all (t : List Nat) (j : Nat) (h : ∀ i ∈ t, i < j) : putTo t j = t.map fun (i : Nat) => (i : Int) := by
  unfold putTo
  exact List.map_congr_left fun i hi => by rw [if_pos (h i hi)]
theorem putTo_set (t : List Nat) (hd : t.Nodup) (j p : Nat) (hp : t[p]? = some j) : (putTo t j).set p (j : Int) = putTo t (j + 1) := by
  apply List.ext_getElem?
  intro q
  rw [List.getElem?_set]
  unfold putTo
  simp only [List.getElem?_map, List.length_map]
  have hpl : p < t.length := by
    rcases Nat.lt_or_ge p t.length with h | h
    · exact h
    · rw [List.getElem?_eq_none h] at hp; cases hp
  by_cases e : p = q
  · subst e
    rw [if_pos rfl, if_pos hpl, hp]
    simp
  · rw [if_neg e]
    rcases Nat.lt_or_ge q t.length with h | h
    · rw [List.getElem?_eq_getElem h]
      have hne : t[q] ≠ j := by
        intro e2
        apply e
        have h3 : t[p]? = t[q]? := by rw [hp, List.getElem?_eq_getElem h, e2]
        exact (List.getElem_inj (h₀ := hpl) (h₁ := h) hd).1 (by rw [List.getElem?_eq_getElem hpl, List.getElem?_eq_getElem h] at h3; exact Option.some.inj h3)
      simp only [Option.map_some, Option.some.injEq]
      by_cases h4 : t[q] < j
      · rw [if_pos h4, if_pos (by omega)]
      · rw [if_neg h4, if_neg (by omega)]
    · rw [List.getElem?_eq_none h]
      rfl
theorem putTo_skip (t : List Nat) (j : Nat) (hp : j ∉ t) : putTo t j = putTo t (j + 1) := by
  unfold putTo
  refine List.map_congr_left fun i hi => ?_
  have : i ≠ j := fun e => hp (e ▸ hi)
  by_cases h4 : i < j
  · rw [if_pos h4, if_pos (by omega)]
  · rw [if_neg h4, if_neg (by omega)]
def srtI (ns : List Int) : List Int := (srt ns 15).map fun (i : Nat) => (i : Int)
end Go.Proofs.Ytfbfbkgpcpidcaa
