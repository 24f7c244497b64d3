/- Names, by the page. -/
import Derived.Test.YtdmglpnieiiigaaDoorS2
import Derived.Test.YtdmglpnieiiigaaDoorList
import Derived.Test.YtdmglpnieiiigaaDoorBlk
import Derived.Test.YtdmglpnieiiigaaDoorBytes
import Derived.Lib.LastIndexByte
import Derived.Lib.SmallJoins
import Derived.Laws.Cover1
namespace Go.Proofs.YtdmglpnieiiigaaDoor
open Go.RowKit

theorem occ47 (l : List UInt8) (j : Nat) : Lib.occAt l [47] j = (l[j]? == some 47) := by
  unfold Lib.occAt
  rw [← List.head?_drop]
  cases l.drop j with
  | nil => rfl
  | cons a t =>
    simp only [List.isPrefixOf, List.head?_cons]
    by_cases h : a = 47
    · subst h; rfl
    · have h1 : ((47 : UInt8) == a) = false := by simpa using fun e : (47 : UInt8) = a => h e.symm
      have h2 : (some a == some (47 : UInt8)) = false := by simpa using h
      rw [h1, h2]; rfl
theorem parts_hit (s : ByteArray) (i : Nat) (hi : i < s.size) (h : s.data.toList[i]? = some 47) (hn : ∀ j : Nat, j < i → s.data.toList[j]? ≠ some 47) :
    parts s = s.extract 0 i :: parts (s.extract (i + 1) s.size) := by
  have hix : Lib.indexB s slash = (i : Int) := by
    show Lib.index s.data.toList [47] = (i : Int)
    refine Lib.index_hit (fun j hj => ?_) (by have : s.size = s.data.toList.length := by simp
                                              omega) (by rw [occ47, h]; rfl)
    rw [occ47]
    simpa using hn j hj
  have h1 : Lib.countB s slash = Lib.countB (s.extract (i + 1) s.size) slash + 1 := by
    rw [Lib.countB_hit s slash i (by decide) hix, Nat.add_comm]; rfl
  unfold parts
  rw [h1, Lib.splitB_hit slash 0 _ s i hix]
  rfl
theorem parts_miss (s : ByteArray) (hn : ∀ j : Nat, s.data.toList[j]? ≠ some 47) : parts s = [s] := by
  have hix : Lib.indexB s slash = -1 := by
    show Lib.index s.data.toList [47] = -1
    refine Lib.index_none fun j _ => ?_
    rw [occ47]
    simpa using hn j
  unfold parts
  rw [Lib.splitB_miss slash 0 _ s hix]
theorem ext_get (s : ByteArray) (a j : Nat) : (s.extract a s.size).data.toList[j]? = s.data.toList[a + j]? := by
  rw [Lib.extract_data, List.getElem?_take]
  have h : s.size = s.data.toList.length := by simp
  split
  · rw [List.getElem?_drop]
  · rw [List.getElem?_eq_none (by omega)]
theorem ext_ext (s : ByteArray) (a i : Nat) (h : a + i ≤ s.size) : (s.extract a s.size).extract 0 i = s.extract a (a + i) := by
  apply ByteArray.ext
  apply Array.toList_inj.1
  rw [Lib.extract_data, Lib.extract_data, Lib.extract_data]
  simp only [List.drop_zero, Nat.sub_zero, List.take_take]
  congr 1
  omega
theorem ext_tail (s : ByteArray) (a i : Nat) (h : a + i ≤ s.size) : (s.extract a s.size).extract i (s.extract a s.size).size = s.extract (a + i) s.size := by
  apply ByteArray.ext
  apply Array.toList_inj.1
  have h1 : (s.extract a s.size).size = s.size - a := by rw [ByteArray.size_extract]; omega
  rw [h1, Lib.extract_data, Lib.extract_data, Lib.extract_data, List.drop_take, List.drop_drop, List.take_take]
  congr 1
  omega
/-- the parts of what is behind a, where k is the next slash -/
theorem parts_step (s : ByteArray) (a k : Nat) (hak : a ≤ k) (hk : k < s.size) (h : s.data.toList[k]? = some 47) (hn : ∀ j : Nat, a ≤ j → j < k → s.data.toList[j]? ≠ some 47) :
    parts (s.extract a s.size) = s.extract a k :: parts (s.extract (k + 1) s.size) := by
  have h1 : (s.extract a s.size).size = s.size - a := by rw [ByteArray.size_extract]; omega
  rw [parts_hit (s.extract a s.size) (k - a) (by omega) (by rw [ext_get, show a + (k - a) = k by omega, h]) (fun j hj => by rw [ext_get]; exact hn _ (by omega) (by omega)),
    ext_ext s a (k - a) (by omega), ext_tail s a (k - a + 1) (by omega), show a + (k - a) = k by omega, show a + (k - a + 1) = k + 1 by omega]
theorem parts_end (s : ByteArray) (a : Nat) (hn : ∀ j : Nat, a ≤ j → s.data.toList[j]? ≠ some 47) : parts (s.extract a s.size) = [s.extract a s.size] :=
  parts_miss _ fun j => by rw [ext_get]; exact hn _ (by omega)

/-- joined again -/
def joinL : List (List UInt8) → List UInt8
  | [] => []
  | [p] => p
  | p :: q :: t => p ++ 47 :: joinL (q :: t)
theorem joinL_cons (p : List UInt8) (l : List (List UInt8)) (h : l ≠ []) : joinL (p :: l) = p ++ 47 :: joinL l := by
  cases l with
  | nil => exact absurd rfl h
  | cons q t => rfl
def bytes (l : List ByteArray) : List (List UInt8) := l.map fun p => p.data.toList
theorem parts_ne (s : ByteArray) : parts s ≠ [] := by
  intro h
  have := parts_len s
  rw [h] at this
  cases this
theorem first47 (l : List UInt8) : (∀ j : Nat, l[j]? ≠ some 47) ∨ ∃ i : Nat, l[i]? = some 47 ∧ ∀ j : Nat, j < i → l[j]? ≠ some 47 := by
  induction l with
  | nil => left; intro j; simp
  | cons a t ih =>
    by_cases ha : a = 47
    · right
      exact ⟨0, by simp [ha], fun j hj => absurd hj (Nat.not_lt_zero _)⟩
    · rcases ih with h | ⟨i, h1, h2⟩
      · left
        intro j
        cases j with
        | zero => simpa using ha
        | succ j => simpa using h j
      · right
        refine ⟨i + 1, by simpa using h1, fun j hj => ?_⟩
        cases j with
        | zero => simpa using ha
        | succ j => simpa using h2 j (by omega)
theorem parts_facts : ∀ (n : Nat) (s : ByteArray), s.size ≤ n → joinL (bytes (parts s)) = s.data.toList ∧ ∀ p ∈ bytes (parts s), (47 : UInt8) ∉ p := by
  intro n
  induction n with
  | zero =>
    intro s hs
    have h0 : s.data.toList = [] := List.eq_nil_of_length_eq_zero (by have : s.size = s.data.toList.length := by simp
                                                                      omega)
    rw [parts_miss s (by intro j; rw [h0]; simp)]
    simp [bytes, joinL, h0]
  | succ n ih =>
    intro s hs
    have hsz : s.size = s.data.toList.length := by simp
    rcases first47 s.data.toList with h | ⟨i, h1, h2⟩
    · rw [parts_miss s h]
      refine ⟨rfl, ?_⟩
      intro p hp
      simp only [bytes, List.map_cons, List.map_nil, List.mem_singleton] at hp
      subst hp
      intro hm
      obtain ⟨j, hj⟩ := List.mem_iff_getElem?.1 hm
      exact h j hj
    · have hi : i < s.size := by
        rw [hsz]
        exact (List.getElem?_eq_some_iff.1 h1).1
      rw [parts_hit s i hi h1 h2]
      have h3 : (s.extract (i + 1) s.size).size ≤ n := by rw [ByteArray.size_extract]; omega
      obtain ⟨e1, e2⟩ := ih _ h3
      have hx : (s.extract 0 i).data.toList = s.data.toList.take i := by rw [Lib.extract_data]; simp
      have hy : (s.extract (i + 1) s.size).data.toList = s.data.toList.drop (i + 1) := by
        rw [Lib.extract_data, List.take_of_length_le]
        rw [List.length_drop]; omega
      refine ⟨?_, ?_⟩
      · show joinL ((s.extract 0 i).data.toList :: bytes (parts (s.extract (i + 1) s.size))) = _
        rw [joinL_cons _ _ (by intro e; exact parts_ne (s.extract (i + 1) s.size) (List.map_eq_nil_iff.1 e)), e1, hx, hy]
        have hg := List.getElem?_eq_some_iff.1 h1
        obtain ⟨hl, hv⟩ := hg
        conv => rhs; rw [← List.take_append_drop i s.data.toList, List.drop_eq_getElem_cons hl, hv]
      · intro p hp
        rcases List.mem_cons.1 hp with rfl | hp
        · show (47 : UInt8) ∉ (s.extract 0 i).data.toList
          rw [hx]
          intro hm
          obtain ⟨j, hj⟩ := List.mem_iff_getElem?.1 hm
          rw [List.getElem?_take] at hj
          split at hj
          · exact h2 j (by assumption) hj
          · cases hj
        · exact e2 p hp
theorem parts_join (s : ByteArray) : joinL (bytes (parts s)) = s.data.toList := (parts_facts s.size s (Nat.le_refl _)).1
theorem parts_free (s : ByteArray) : ∀ p ∈ bytes (parts s), (47 : UInt8) ∉ p := (parts_facts s.size s (Nat.le_refl _)).2
theorem bytes_inj : ∀ {a b : List ByteArray}, bytes a = bytes b → a = b
  | [], [], _ => rfl
  | [], _ :: _, h => by simp [bytes] at h
  | _ :: _, [], h => by simp [bytes] at h
  | p :: a, q :: b, h => by
    simp only [bytes, List.map_cons, List.cons.injEq] at h
    have h1 : p = q := ByteArray.ext (Array.toList_inj.1 h.1)
    rw [h1, bytes_inj (a := a) (b := b) h.2]
theorem parts_inj {a b : ByteArray} (h : parts a = parts b) : a = b := by
  have h1 := parts_join a
  rw [h, parts_join b] at h1
  exact ByteArray.ext (Array.toList_inj.1 h1.symm)
/-- k parts joined, one more -/
theorem joinL_snoc : ∀ (l : List (List UInt8)) (p : List UInt8), l ≠ [] → joinL (l ++ [p]) = joinL l ++ 47 :: p
  | [], _, h => absurd rfl h
  | [q], p, _ => rfl
  | q :: r :: t, p, _ => by
    show joinL (q :: (r :: (t ++ [p]))) = _
    have e : joinL (q :: (r :: (t ++ [p]))) = q ++ 47 :: joinL ((r :: t) ++ [p]) := rfl
    rw [e, joinL_snoc (r :: t) p (by simp)]
    show _ = (q ++ 47 :: joinL (r :: t)) ++ 47 :: p
    simp
/-- one element of a list of texts -/
theorem str_at {w : World} {S : Nat → Prop} {A : Option Addr} {n : Nat} {ps : List ByteArray} (h : Lst w S 1 A n (ps.map Value.string)) {i : Nat} (hi : i < n) (hp : i < ps.length) :
    ∃ b off, A = some ⟨b, off, none⟩ ∧ b < w.heap.size ∧ S b ∧ w.cell? ⟨b, off + i, none⟩ = some (.string (ps[i]'hp)) := by
  obtain ⟨b, off, e, hl, hb, hc⟩ := h.2 (by omega)
  refine ⟨b, off, e, hl, hb, hc i _ ?_⟩
  rw [List.getElem?_map, List.getElem?_eq_getElem hp]
  rfl
theorem str_len {w : World} {S : Nat → Prop} {A : Option Addr} {n : Nat} {ps : List ByteArray} (h : Lst w S 1 A n (ps.map Value.string)) : ps.length = n := by
  have := h.1; simpa using this

theorem info9 : (Tryd.prog.info? 9).map (fun i => (i.zero, i.size, i.bytes)) = some (some (.string ByteArray.empty), 1, 16) := by kernel_rfl
theorem oneCell_strs (p : ByteArray) : ∀ u ∈ [Value.string p], u.oneCell' = true := by
  intro u hu
  simp only [List.mem_singleton] at hu
  subst hu; rfl
def RefP (s : ByteArray) (w : World) (e : Ending) (w' : World) : Prop := ∃ A' c', e = .returned (.slice A' (parts s).length c') ∧ w'.ownsRow w.heap.size 9 1 (.slice A' (parts s).length c') (parts s).length ((parts s).map Value.string) ∧ Below w.heap.size w w'
theorem at47 (s : ByteArray) (k : Nat) (h : k < s.size) (b : UInt8) (hb : s[k]'h = b) : s.data.toList[k]? = some b := by
  rw [List.getElem?_eq_getElem (by simpa using h)]
  rw [← hb]; rfl
set_option maxHeartbeats 2000000 in
theorem refparts_any (s : ByteArray) (w : World) (hs : s.size ≤ 1000000) : Calls Tryd.prog 58 #[.string s] w (RefP s w) := by
  obtain ⟨i0, hi, hz0, hz1, hz2⟩ := info_parts info9
  go_enter Tryd.func58, Tryd.ntmps58
  go_wp2
  go_loopw [3, 4, 5] (fun o f i wr => ∃ (k a m : Nat) (A2 : Option Addr) (c2 : Nat) (l : List ByteArray), k ≤ s.size ∧ a ≤ k ∧ m ≤ k ∧ i = .int .i64 (k : Nat) ∧ f = .int .i64 (a : Nat) ∧ o = .slice A2 m c2 ∧ Hid (wr.ownsRow w.heap.size 9 1 (.slice A2 m c2) m (l.map Value.string)) ∧ Hid (l ++ parts (s.extract a s.size) = parts s) ∧ Hid (∀ j : Nat, a ≤ j → j < k → s.data.toList[j]? ≠ some 47) ∧ Hid (Below w.heap.size w wr)) (fun _ _ i _ => s.size - (intOf i).toNat)
  case atStart => exact ⟨0, 0, 0, none, 0, [], Nat.zero_le _, Nat.le_refl _, Nat.le_refl _, rfl, rfl, rfl, Lib.hid (World.ownsRow_nil _ _ _ _), Lib.hid (by simp), Lib.hid (fun j h1 h2 => by omega), Lib.hid (Below.refl _ _)⟩
  case round =>
    obtain ⟨k, a, m, A2, c2, l, hk, hak, hmk, rfl, rfl, rfl, HO, HP, HN, HW⟩ := hrel
    by_cases hlt : k < s.size
    · have h1 : (0 : Int) ≤ (k : Int) := by omega
      have h2 : (k : Int) < (s.size : Int) := by omega
      have h3 : ((k : Int)).toNat = k := by omega
      obtain ⟨b, hb⟩ : ∃ b, s[k]'hlt = b := ⟨_, rfl⟩
      have HB := Lib.hid (at47 s k hlt b hb)
      by_cases hc : b.toNat = 47
      · have d3 : (((b.toNat : Nat) : Int) == (47 : Int)) = true := by simp; omega
        have HBV : Hid (b = 47) := Lib.hid (UInt8.toNat_inj.1 hc)
        go_wp2_with (at_builtin; refine wpList_append_list _ rfl (.tmp 16) (.tmp 21) 96 rfl w.heap.size 9 i0 (.string ByteArray.empty) 1 16 Tryd.underlying96 hi hz0 hz1 hz2 rfl (by decide) _ m _ rfl (World.ownsRow.alloc HO.out _) _ (some ⟨wr.heap.size, 0, none⟩) 1 1 [.string (s.extract a k)] rfl (Lst.new (size := 1) wr 9 #[.string (s.extract a k)] 1 rfl rfl) (oneCell_strs _) (by unfold maxLen; omega) (by omega) (by have := HW.out.size; simp; omega) ?_)
        intro A4 c4 x4 hown4 hgrow4 hat4
        have HO4 : Hid (x4.ownsRow w.heap.size 9 1 (.slice A4 (m + 1) c4) (m + 1) ((l ++ [s.extract a k]).map Value.string)) := by
          rw [List.map_append]
          exact Lib.hid hown4
        have HW4 := Lib.hid ((HW.out.alloc HW.out.size (.cells #[.string (s.extract a k)] 9)).grown hgrow4 (by have := HW.out.size; simp; omega) (fun g e => (HO.out.lt g e).1))
        clear hown4 hgrow4 hat4
        go_wp2
        have hst := parts_step s a k hak hlt (by rw [HB.out, HBV.out]) HN.out
        refine ⟨⟨k + 1, k + 1, m + 1, A4, c4, l ++ [s.extract a k], by omega, Nat.le_refl _, by omega, by simp, by simp, rfl, HO4, Lib.hid ?_, Lib.hid (fun j h1 h2 => by omega), HW4⟩, by simp only [intOf]; omega⟩
        rw [List.append_assoc, ← HP.out, hst]
        rfl
      · have d3 : (((b.toNat : Nat) : Int) == (47 : Int)) = false := by simp; omega
        have HBV : Hid (b ≠ 47) := Lib.hid (fun e => hc (by rw [e]; rfl))
        go_wp2
        refine ⟨⟨k + 1, a, m, A2, c2, l, by omega, by omega, by omega, by simp, rfl, rfl, HO, HP, Lib.hid (fun j h1 h2 => ?_), HW⟩, by simp only [intOf]; omega⟩
        by_cases e : j = k
        · subst e
          rw [HB.out]
          intro h; exact HBV.out (Option.some.inj h)
        · exact HN.out j h1 (by omega)
    · have h2 : ¬ (k : Int) < (s.size : Int) := by omega
      have hk' : k = s.size := by omega
      subst hk'
      have hak2 : a ≤ s.size := hak
      go_wp2_with (at_builtin; refine wpList_append_list _ rfl (.tmp 25) (.tmp 29) 96 rfl w.heap.size 9 i0 (.string ByteArray.empty) 1 16 Tryd.underlying96 hi hz0 hz1 hz2 rfl (by decide) _ m _ rfl (World.ownsRow.alloc HO.out _) _ (some ⟨wr.heap.size, 0, none⟩) 1 1 [.string (s.extract a s.size)] rfl (Lst.new (size := 1) wr 9 #[.string (s.extract a s.size)] 1 rfl rfl) (oneCell_strs _) (by unfold maxLen; omega) (by omega) (by have := HW.out.size; simp; omega) ?_)
      intro A4 c4 x4 hown4 hgrow4 hat4
      have hst := parts_end s a (fun j h1 h2 => by
        by_cases h : j < s.size
        · exact HN.out j h1 h h2
        · rw [List.getElem?_eq_none (by have : s.size = s.data.toList.length := by simp
                                        omega)] at h2
          cases h2)
      have hps : parts s = l ++ [s.extract a s.size] := by rw [← HP.out, hst]
      have hpl : (parts s).length = m + 1 := by
        have := str_len (Lst.of_own HO.out)
        rw [hps, List.length_append, this]; rfl
      have HO4 : Hid (x4.ownsRow w.heap.size 9 1 (.slice A4 (m + 1) c4) (m + 1) ((parts s).map Value.string)) := by
        rw [hps, List.map_append]
        exact Lib.hid hown4
      have HW4 := Lib.hid ((HW.out.alloc HW.out.size (.cells #[.string (s.extract a s.size)] 9)).grown hgrow4 (by have := HW.out.size; simp; omega) (fun g e => (HO.out.lt g e).1))
      have HPL := Lib.hid hpl
      clear hown4 hgrow4 hat4 hst hps hpl
      go_wp2
      go_ret
      refine ⟨A4, c4, ?_, ?_, HW4.out⟩
      · rw [HPL.out]; rfl
      · rw [HPL.out]; exact HO4.out
end Go.Proofs.YtdmglpnieiiigaaDoor
