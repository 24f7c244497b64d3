/- The law of Parts. -/
import Derived.Test.YtcakcgbkcnkgeaaDoorS3
namespace Go.Proofs.YtcakcgbkcnkgeaaDoor
open Go.RowKit

theorem joinL_take_le : ∀ (l : List (List UInt8)) (k : Nat), (joinL (l.take k)).length ≤ (joinL l).length
  | [], k => by simp [joinL]
  | [p], k => by
    cases k with
    | zero => simp [joinL]
    | succ k => simp [joinL]
  | p :: q :: t, k => by
    cases k with
    | zero => simp [joinL]
    | succ k =>
      have ih := joinL_take_le (q :: t) k
      cases k with
      | zero => simp [joinL]
      | succ k =>
        have e1 : joinL ((p :: q :: t).take (k + 1 + 1)) = p ++ 47 :: joinL ((q :: t).take (k + 1)) := rfl
        have e2 : joinL (p :: q :: t) = p ++ 47 :: joinL (q :: t) := rfl
        rw [e1, e2, List.length_append, List.length_append, List.length_cons, List.length_cons]
        omega
theorem joinL_mem_le : ∀ (l : List (List UInt8)) (p : List UInt8), p ∈ l → p.length ≤ (joinL l).length
  | [], _, h => by cases h
  | [q], p, h => by
    simp only [List.mem_singleton] at h
    subst h
    exact Nat.le_refl _
  | q :: r :: t, p, h => by
    have e2 : joinL (q :: r :: t) = q ++ 47 :: joinL (r :: t) := rfl
    rw [e2, List.length_append, List.length_cons]
    rcases List.mem_cons.1 h with rfl | h
    · omega
    · have := joinL_mem_le (r :: t) p h
      omega
theorem bytes_take (ps : List ByteArray) (k : Nat) : bytes (ps.take k) = (bytes ps).take k := by unfold bytes; rw [List.map_take]
theorem bytes_len (ps : List ByteArray) : (bytes ps).length = ps.length := by unfold bytes; simp
theorem sz (s : ByteArray) : s.size = s.data.toList.length := by simp
theorem part_le (s : ByteArray) (p : ByteArray) (h : p ∈ parts s) : p.size ≤ s.size := by
  rw [sz p, sz s, ← parts_join s]
  exact joinL_mem_le _ _ (List.mem_map_of_mem h)
theorem join_le (s : ByteArray) (k : Nat) : (joinL (bytes ((parts s).take k))).length ≤ s.size := by
  rw [sz s, ← parts_join s, bytes_take]
  exact joinL_take_le _ _
theorem take_snoc (ps : List ByteArray) (k : Nat) (hk : k < ps.length) : bytes (ps.take (k + 1)) = bytes (ps.take k) ++ [(ps[k]'hk).data.toList] := by
  rw [List.take_succ_eq_append_getElem hk]
  unfold bytes
  rw [List.map_append]
  rfl
/-- the first part, more of them -/
theorem join_first (ps : List ByteArray) (hk : 0 < ps.length) : joinL (bytes (ps.take 1)) = (ps[0]'hk).data.toList := by
  rw [take_snoc ps 0 hk]
  rfl
theorem join_more (ps : List ByteArray) (k : Nat) (hk : k < ps.length) (h0 : 0 < k) : joinL (bytes (ps.take (k + 1))) = joinL (bytes (ps.take k)) ++ 47 :: (ps[k]'hk).data.toList := by
  rw [take_snoc ps k hk, joinL_snoc]
  intro h
  have := congrArg List.length h
  rw [bytes_len, List.length_take, List.length_nil] at this
  omega
theorem base_one (s : ByteArray) (p : ByteArray) (h : parts s = [p]) : s = p ∧ baseS s = p ∧ dirS s = ByteArray.empty := by
  have hj := parts_join s
  rw [h] at hj
  have hs : s = p := by
    apply ByteArray.ext
    apply Array.toList_inj.1
    rw [← hj]
    rfl
  have hl := last_none s (by
    have := parts_free s
    rw [h, ← hs] at this
    exact this _ (List.mem_singleton.2 rfl))
  refine ⟨hs, ?_, ?_⟩
  · unfold baseS
    rw [hl, ← hs]
    show s.extract 0 s.size = s
    simp
  · unfold dirS
    rw [hl]
    show s.extract 0 0 = _
    apply ByteArray.ext
    apply Array.toList_inj.1
    rw [Lib.extract_data]
    simp
theorem base_more (s D : ByteArray) (m : Nat) (hm : m < (parts s).length) (h0 : 0 < m) (he : (parts s).length = m + 1) (hD : D.data.toList = joinL (bytes ((parts s).take m))) :
    s.data.toList = D.data.toList ++ 47 :: ((parts s)[m]'hm).data.toList ∧ baseS s = (parts s)[m]'hm ∧ dirS s = D := by
  have hj := parts_join s
  have h1 : (parts s).take (m + 1) = parts s := by rw [← he, List.take_length]
  have h2 := join_more (parts s) m hm h0
  rw [h1, hj, ← hD] at h2
  have hf : (47 : UInt8) ∉ ((parts s)[m]'hm).data.toList := parts_free s _ (List.mem_map_of_mem (List.getElem_mem hm))
  have hl := last_at s D.data.toList _ h2 hf
  refine ⟨h2, ?_, ?_⟩
  · unfold baseS
    rw [hl]
    apply ByteArray.ext
    apply Array.toList_inj.1
    rw [Lib.extract_data]
    have e : ((D.data.toList.length : Int) + 1).toNat = D.data.toList.length + 1 := by omega
    rw [e, sz s, h2, List.take_of_length_le (by simp)]
    rw [List.drop_append, List.drop_of_length_le (by omega)]
    simp
  · unfold dirS
    rw [hl]
    apply ByteArray.ext
    apply Array.toList_inj.1
    rw [Lib.extract_data, h2]
    simp
end Go.Proofs.YtcakcgbkcnkgeaaDoor
