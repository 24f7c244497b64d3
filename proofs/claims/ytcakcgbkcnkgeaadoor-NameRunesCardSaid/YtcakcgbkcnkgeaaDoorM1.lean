/- Texts and their parts. -/
import Derived.Lib.SplitLaws
import Derived.Lib.IndexLaws
import Derived.Lib.LastIndexByte
import Derived.Lib.SmallJoins
namespace Go.Proofs.YtcakcgbkcnkgeaaDoor
open Go.RowKit

def slash : ByteArray := ⟨#[47]⟩
def parts (s : ByteArray) : List ByteArray := Lib.splitB slash 0 (Lib.countB s slash) s
theorem parts_len (s : ByteArray) : (parts s).length = Lib.countB s slash + 1 := Lib.splitB_all slash (by decide) 0 _ s rfl
theorem occ47 (l : List UInt8) (j : Nat) : Lib.occAt l [47] j = (l[j]? == some 47) := by
  unfold Lib.occAt
  rw [← List.head?_drop]
  cases l.drop j with
  | nil => rfl
  | cons a t =>
    simp only [List.isPrefixOf, List.head?_cons]
    by_cases h : a = 47
    · subst h; rfl
    · have h1 : ((47 : UInt8) == a) = false := by simpa using fun e : (47 : UInt8) = a => h e.symm
      have h2 : (some a == some (47 : UInt8)) = false := by simpa using h
      rw [h1, h2]; rfl
theorem parts_hit (s : ByteArray) (i : Nat) (hi : i < s.size) (h : s.data.toList[i]? = some 47) (hn : ∀ j : Nat, j < i → s.data.toList[j]? ≠ some 47) :
    parts s = s.extract 0 i :: parts (s.extract (i + 1) s.size) := by
  have hix : Lib.indexB s slash = (i : Int) := by
    show Lib.index s.data.toList [47] = (i : Int)
    refine Lib.index_hit (fun j hj => ?_) (by have : s.size = s.data.toList.length := by simp
                                              omega) (by rw [occ47, h]; rfl)
    rw [occ47]
    simpa using hn j hj
  have h1 : Lib.countB s slash = Lib.countB (s.extract (i + 1) s.size) slash + 1 := by
    rw [Lib.countB_hit s slash i (by decide) hix, Nat.add_comm]; rfl
  unfold parts
  rw [h1, Lib.splitB_hit slash 0 _ s i hix]
  rfl
theorem parts_miss (s : ByteArray) (hn : ∀ j : Nat, s.data.toList[j]? ≠ some 47) : parts s = [s] := by
  have hix : Lib.indexB s slash = -1 := by
    show Lib.index s.data.toList [47] = -1
    refine Lib.index_none fun j _ => ?_
    rw [occ47]
    simpa using hn j
  unfold parts
  rw [Lib.splitB_miss slash 0 _ s hix]
theorem ext_get (s : ByteArray) (a j : Nat) : (s.extract a s.size).data.toList[j]? = s.data.toList[a + j]? := by
  rw [Lib.extract_data, List.getElem?_take]
  have h : s.size = s.data.toList.length := by simp
  split
  · rw [List.getElem?_drop]
  · rw [List.getElem?_eq_none (by omega)]
theorem ext_ext (s : ByteArray) (a i : Nat) (h : a + i ≤ s.size) : (s.extract a s.size).extract 0 i = s.extract a (a + i) := by
  apply ByteArray.ext
  apply Array.toList_inj.1
  rw [Lib.extract_data, Lib.extract_data, Lib.extract_data]
  simp only [List.drop_zero, Nat.sub_zero, List.take_take]
  congr 1
  omega
theorem ext_tail (s : ByteArray) (a i : Nat) (h : a + i ≤ s.size) : (s.extract a s.size).extract i (s.extract a s.size).size = s.extract (a + i) s.size := by
  apply ByteArray.ext
  apply Array.toList_inj.1
  have h1 : (s.extract a s.size).size = s.size - a := by rw [ByteArray.size_extract]; omega
  rw [h1, Lib.extract_data, Lib.extract_data, Lib.extract_data, List.drop_take, List.drop_drop, List.take_take]
  congr 1
  omega
/-- the parts of what is behind a, where k is the next slash -/
theorem parts_step (s : ByteArray) (a k : Nat) (hak : a ≤ k) (hk : k < s.size) (h : s.data.toList[k]? = some 47) (hn : ∀ j : Nat, a ≤ j → j < k → s.data.toList[j]? ≠ some 47) :
    parts (s.extract a s.size) = s.extract a k :: parts (s.extract (k + 1) s.size) := by
  have h1 : (s.extract a s.size).size = s.size - a := by rw [ByteArray.size_extract]; omega
  rw [parts_hit (s.extract a s.size) (k - a) (by omega) (by rw [ext_get, show a + (k - a) = k by omega, h]) (fun j hj => by rw [ext_get]; exact hn _ (by omega) (by omega)),
    ext_ext s a (k - a) (by omega), ext_tail s a (k - a + 1) (by omega), show a + (k - a) = k by omega, show a + (k - a + 1) = k + 1 by omega]
theorem parts_end (s : ByteArray) (a : Nat) (hn : ∀ j : Nat, a ≤ j → s.data.toList[j]? ≠ some 47) : parts (s.extract a s.size) = [s.extract a s.size] :=
  parts_miss _ fun j => by rw [ext_get]; exact hn _ (by omega)

/-- joined again -/
def joinL : List (List UInt8) → List UInt8
  | [] => []
  | [p] => p
  | p :: q :: t => p ++ 47 :: joinL (q :: t)
theorem joinL_cons (p : List UInt8) (l : List (List UInt8)) (h : l ≠ []) : joinL (p :: l) = p ++ 47 :: joinL l := by
  cases l with
  | nil => exact absurd rfl h
  | cons q t => rfl
def bytes (l : List ByteArray) : List (List UInt8) := l.map fun p => p.data.toList
theorem parts_ne (s : ByteArray) : parts s ≠ [] := by
  intro h
  have := parts_len s
  rw [h] at this
  cases this
theorem first47 (l : List UInt8) : (∀ j : Nat, l[j]? ≠ some 47) ∨ ∃ i : Nat, l[i]? = some 47 ∧ ∀ j : Nat, j < i → l[j]? ≠ some 47 := by
  induction l with
  | nil => left; intro j; simp
  | cons a t ih =>
    by_cases ha : a = 47
    · right
      exact ⟨0, by simp [ha], fun j hj => absurd hj (Nat.not_lt_zero _)⟩
    · rcases ih with h | ⟨i, h1, h2⟩
      · left
        intro j
        cases j with
        | zero => simpa using ha
        | succ j => simpa using h j
      · right
        refine ⟨i + 1, by simpa using h1, fun j hj => ?_⟩
        cases j with
        | zero => simpa using ha
        | succ j => simpa using h2 j (by omega)
theorem parts_facts : ∀ (n : Nat) (s : ByteArray), s.size ≤ n → joinL (bytes (parts s)) = s.data.toList ∧ ∀ p ∈ bytes (parts s), (47 : UInt8) ∉ p := by
  intro n
  induction n with
  | zero =>
    intro s hs
    have h0 : s.data.toList = [] := List.eq_nil_of_length_eq_zero (by have : s.size = s.data.toList.length := by simp
                                                                      omega)
    rw [parts_miss s (by intro j; rw [h0]; simp)]
    simp [bytes, joinL, h0]
  | succ n ih =>
    intro s hs
    have hsz : s.size = s.data.toList.length := by simp
    rcases first47 s.data.toList with h | ⟨i, h1, h2⟩
    · rw [parts_miss s h]
      refine ⟨rfl, ?_⟩
      intro p hp
      simp only [bytes, List.map_cons, List.map_nil, List.mem_singleton] at hp
      subst hp
      intro hm
      obtain ⟨j, hj⟩ := List.mem_iff_getElem?.1 hm
      exact h j hj
    · have hi : i < s.size := by
        rw [hsz]
        exact (List.getElem?_eq_some_iff.1 h1).1
      rw [parts_hit s i hi h1 h2]
      have h3 : (s.extract (i + 1) s.size).size ≤ n := by rw [ByteArray.size_extract]; omega
      obtain ⟨e1, e2⟩ := ih _ h3
      have hx : (s.extract 0 i).data.toList = s.data.toList.take i := by rw [Lib.extract_data]; simp
      have hy : (s.extract (i + 1) s.size).data.toList = s.data.toList.drop (i + 1) := by
        rw [Lib.extract_data, List.take_of_length_le]
        rw [List.length_drop]; omega
      refine ⟨?_, ?_⟩
      · show joinL ((s.extract 0 i).data.toList :: bytes (parts (s.extract (i + 1) s.size))) = _
        rw [joinL_cons _ _ (by intro e; exact parts_ne (s.extract (i + 1) s.size) (List.map_eq_nil_iff.1 e)), e1, hx, hy]
        have hg := List.getElem?_eq_some_iff.1 h1
        obtain ⟨hl, hv⟩ := hg
        conv => rhs; rw [← List.take_append_drop i s.data.toList, List.drop_eq_getElem_cons hl, hv]
      · intro p hp
        rcases List.mem_cons.1 hp with rfl | hp
        · show (47 : UInt8) ∉ (s.extract 0 i).data.toList
          rw [hx]
          intro hm
          obtain ⟨j, hj⟩ := List.mem_iff_getElem?.1 hm
          rw [List.getElem?_take] at hj
          split at hj
          · exact h2 j (by assumption) hj
          · cases hj
        · exact e2 p hp
theorem parts_join (s : ByteArray) : joinL (bytes (parts s)) = s.data.toList := (parts_facts s.size s (Nat.le_refl _)).1
theorem parts_free (s : ByteArray) : ∀ p ∈ bytes (parts s), (47 : UInt8) ∉ p := (parts_facts s.size s (Nat.le_refl _)).2
theorem bytes_inj : ∀ {a b : List ByteArray}, bytes a = bytes b → a = b
  | [], [], _ => rfl
  | [], _ :: _, h => by simp [bytes] at h
  | _ :: _, [], h => by simp [bytes] at h
  | p :: a, q :: b, h => by
    simp only [bytes, List.map_cons, List.cons.injEq] at h
    have h1 : p = q := ByteArray.ext (Array.toList_inj.1 h.1)
    rw [h1, bytes_inj (a := a) (b := b) h.2]
theorem parts_inj {a b : ByteArray} (h : parts a = parts b) : a = b := by
  have h1 := parts_join a
  rw [h, parts_join b] at h1
  exact ByteArray.ext (Array.toList_inj.1 h1.symm)
/-- k parts joined, one more -/
theorem joinL_snoc : ∀ (l : List (List UInt8)) (p : List UInt8), l ≠ [] → joinL (l ++ [p]) = joinL l ++ 47 :: p
  | [], _, h => absurd rfl h
  | [q], p, _ => rfl
  | q :: r :: t, p, _ => by
    show joinL (q :: (r :: (t ++ [p]))) = _
    have e : joinL (q :: (r :: (t ++ [p]))) = q ++ 47 :: joinL ((r :: t) ++ [p]) := rfl
    rw [e, joinL_snoc (r :: t) p (by simp)]
    show _ = (q ++ 47 :: joinL (r :: t)) ++ 47 :: p
    simp
/-- the last slash -/
theorem last_at (s : ByteArray) (d b : List UInt8) (h : s.data.toList = d ++ 47 :: b) (hb : (47 : UInt8) ∉ b) : Lib.lastIndexByte s 47 = (d.length : Int) := by
  have hsz : s.size = s.data.toList.length := by simp
  have key : ∀ j (hj : j < s.data.toList.length), s.data[j]! = s.data.toList[j] := by
    intro j hj
    rw [getElem!_pos s.data j (by simpa using hj)]
    simp
  rcases Lib.lastIndexByte_spec s 47 with ⟨_, hn⟩ | ⟨i, hi, e, hc, hn⟩
  · exfalso
    have hl : d.length < s.data.toList.length := by rw [h]; simp
    refine hn d.length (by omega) ?_
    rw [key _ hl]
    simp [h]
  · rw [e]
    have hil : i < s.data.toList.length := by omega
    rw [key i hil] at hc
    congr 1
    rcases Nat.lt_trichotomy i d.length with hlt | heq | hgt
    · exfalso
      have hl : d.length < s.data.toList.length := by rw [h]; simp
      refine hn d.length hlt (by omega) ?_
      rw [key _ hl]
      simp [h]
    · exact heq
    · exfalso
      have hc' : s.data.toList[i] = 47 := by
        apply UInt8.toNat_inj.1
        have : (s.data.toList[i].toNat : Int) = 47 := hc
        have h47 : (47 : UInt8).toNat = 47 := rfl
        omega
      have h4 : s.data.toList[i]? = some 47 := by rw [List.getElem?_eq_getElem hil, hc']
      rw [h, List.getElem?_append_right (by omega), show i - d.length = (i - d.length - 1) + 1 by omega, List.getElem?_cons_succ] at h4
      exact hb (List.mem_iff_getElem?.2 ⟨_, h4⟩)
theorem last_none (s : ByteArray) (hb : (47 : UInt8) ∉ s.data.toList) : Lib.lastIndexByte s 47 = -1 := by
  have hsz : s.size = s.data.toList.length := by simp
  rcases Lib.lastIndexByte_spec s 47 with ⟨e, _⟩ | ⟨i, hi, _, hc, _⟩
  · exact e
  · exfalso
    have hil : i < s.data.toList.length := by omega
    have k1 : s.data[i]! = s.data.toList[i] := by
      rw [getElem!_pos s.data i (by simpa using hil)]
      simp
    rw [k1] at hc
    have hc' : s.data.toList[i] = 47 := by
      apply UInt8.toNat_inj.1
      have h47 : (47 : UInt8).toNat = 47 := rfl
      omega
    exact hb (hc' ▸ List.getElem_mem hil)
end Go.Proofs.YtcakcgbkcnkgeaaDoor
