/- A region that draws its order: a head that is walked once (XSoft), then a forced tail that may store or panic. -/
import Derived.Test.YtdmglpnieiiigaaDoorSoft
import Derived.StillTail
namespace Go
open Go.RowKit
section
variable {P : Program} {md : Region.Mode} {ops : Array Oper} {Q : Exit → Act → World → Prop}
theorem wpAny_more : ∀ (g k : Nat) (listed : Array Bool) (a : Act) (w : World), wpAny P md ops Q g listed a w → wpAny P md ops Q (g + k) listed a w
  | 0, k, listed, a, w, h => by
    rw [Nat.zero_add]
    cases k with
    | zero => exact h
    | succ k => exact ⟨fun _ => h.2, fun i hi => by rw [h.1] at hi; cases hi⟩
  | g + 1, k, listed, a, w, h => by
    rw [show g + 1 + k = (g + k) + 1 by omega]
    exact ⟨h.1, fun i hi => wpOp_mono (fun a' w' h' => wpAny_more g k _ a' w' h') (h.2 i hi)⟩
def withTail (Q : Exit → Act → World → Prop) (T : Act → World → Prop) : Exit → Act → World → Prop
  | .normal, a, w => T a w
  | e, a, w => Q e a w
theorem lets_tail {T : Act → World → Prop} (h : LetsOut (withTail Q T)) : LetsOut Q := h
theorem upon_tail {T : Act → World → Prop} {o : Oper} {a : Act} {K : Act → World → Prop} {r : Result Next} (h : o.upon P a K (withTail Q T) r) : o.upon P a K Q r := by
  cases r with
  | ok n w' => cases n <;> exact h
  | halt x w' => cases x <;> exact h
def guardB (l : List Oper) (n : Nat) : Bool := (l.take n).all fun o => match o.guard with | none => true | some (j, _) => Nat.blt j n
theorem wpOp_tail {T : Act → World → Prop} {l : List Oper} {n i : Nat} {K : Act → World → Prop} {a : Act} {w : World} (hi : i < n) (hg : guardB l n = true)
    (h : wpOp P (l.take n).toArray (withTail Q T) i K a w) : wpOp P l.toArray Q i K a w := by
  have e : (l.take n).toArray[i]? = l.toArray[i]? := by simp [hi]
  unfold wpOp at h ⊢
  rw [e] at h
  cases ho : l.toArray[i]? with
  | none => rw [ho] at h; exact h
  | some o =>
    rw [ho] at h
    have hw : Region.wanted o (yielded (l.take n).toArray a.tmps) = Region.wanted o (yielded l.toArray a.tmps) := by
      unfold Region.wanted
      cases hgd : o.guard with
      | none => rfl
      | some jw =>
        obtain ⟨j, want⟩ := jw
        have hm : o ∈ l.take n := by
          rw [← e] at ho
          exact List.mem_of_getElem? (by simpa using ho)
        have h1 := List.all_eq_true.1 hg o hm
        rw [hgd] at h1
        have hj : j < n := Nat.blt_eq ▸ h1
        simp only [yielded]
        rw [show (l.take n).toArray[j]? = l.toArray[j]? by simp [hj]]
    simp only at h ⊢
    rw [hw] at h
    split
    · rename_i hwt
      rw [if_pos hwt] at h
      exact h.imp (fun h1 => upon_tail h1) (fun h1 => ⟨h1.1, lets_tail h1.2⟩)
    · rename_i hwt
      rw [if_neg hwt] at h
      exact h
/-- Each operation of the head waits only for earlier ones. -/
def depsB (l : List Oper) (n : Nat) : Bool := (List.range n).all fun k => match l[k]? with | some o => o.after.all (fun e => !Region.binds .any e || Nat.blt e.on k) | none => true
def freeTailB (l : List Oper) (n : Nat) : Bool :=
  Nat.blt n l.length && Region.sinkB .any l.toArray n && Region.chainB .any l.toArray n && guardB l n && depsB l n && Region.seqB .any l.toArray (l.length - n) n ((Array.replicate n true) ++ Array.replicate (l.length - n) false)
structure Agree (l : List Oper) (n : Nat) (listed' listed : Array Bool) : Prop where
  size' : listed'.size = n
  eq : listed = listed' ++ Array.replicate (l.length - n) false
theorem Agree.getD {l : List Oper} {n : Nat} {x y : Array Bool} (h : Agree l n x y) {i : Nat} (hi : i < n) (d : Bool) : y.getD i d = x.getD i d := by
  obtain ⟨h1, rfl⟩ := h
  simp [Array.getElem?_append, h1, hi]
theorem Agree.tail {l : List Oper} {n : Nat} {x y : Array Bool} (h : Agree l n x y) {i : Nat} (hi : n ≤ i) : y.getD i false = false := by
  obtain ⟨h1, rfl⟩ := h
  simp only [Array.getD_eq_getD_getElem?, Array.getElem?_append, h1, Nat.not_lt.2 hi, if_false]
  cases hx : (Array.replicate (l.length - n) false)[i - n]? with
  | none => rfl
  | some b =>
    obtain ⟨_, hb⟩ := Array.getElem?_eq_some_iff.1 hx
    simp at hb
    simp [hb]
theorem Agree.set {l : List Oper} {n : Nat} {x y : Array Bool} (h : Agree l n x y) {i : Nat} (hi : i < n) : Agree l n (x.setIfInBounds i true) (y.setIfInBounds i true) := by
  obtain ⟨h1, rfl⟩ := h
  refine ⟨by simp [h1], ?_⟩
  apply Array.ext_getElem?
  intro j
  simp only [Array.getElem?_setIfInBounds, Array.getElem?_append, Array.size_append, Array.size_setIfInBounds, h1]
  by_cases hij : i = j
  · subst hij
    simp [hi]
    omega
  · simp [hij]
theorem Agree.ready {l : List Oper} {n : Nat} {x y : Array Bool} (h : Agree l n x y) (hd : depsB l n = true) {i : Nat} (hi : i < n) :
    i ∈ Region.ready .any (l.take n).toArray x ↔ i ∈ Region.ready .any l.toArray y := by
  rw [mem_ready, mem_ready, h.getD hi, show (l.take n).toArray[i]? = l.toArray[i]? by simp [hi]]
  refine and_congr Iff.rfl (exists_congr fun o => and_congr_right fun ho => ?_)
  have h1 := List.all_eq_true.1 hd i (List.mem_range.2 hi)
  rw [show l[i]? = some o by simpa using ho] at h1
  simp only at h1
  refine forall_congr' fun e => forall_congr' fun he => forall_congr' fun hb => ?_
  have h2 := Array.all_eq_true_iff_forall_mem.1 h1 e he
  rw [hb] at h2
  have h3 : e.on < i := by
    have : Nat.blt e.on i = true := by simpa using h2
    exact Nat.blt_eq ▸ this
  rw [h.getD (by omega)]
theorem ready_least {l : List Oper} {n : Nat} {x : Array Bool} (hx : x.size = n) (hn : n ≤ l.length) (hd : depsB l n = true) (hr : Region.ready .any (l.take n).toArray x = []) : ∀ i, i < n → x.getD i false = true := by
  intro i
  induction i using Nat.strongRecOn with
  | _ i ih =>
    intro hi
    cases hb : x.getD i false with
    | true => rfl
    | false =>
      have hmem : i ∈ Region.ready .any (l.take n).toArray x := by
        rw [mem_ready]
        have hlt : i < (l.take n).length := by simp; omega
        refine ⟨getD_in (by omega) hb, (l.take n)[i], by simp [hi], fun e he hbd => ?_⟩
        have h1 := List.all_eq_true.1 hd i (List.mem_range.2 hi)
        rw [show l[i]? = some (l.take n)[i] by simp] at h1
        simp only at h1
        have h2 := Array.all_eq_true_iff_forall_mem.1 h1 e he
        rw [hbd] at h2
        have h3 : e.on < i := by
          have : Nat.blt e.on i = true := by simpa using h2
          exact Nat.blt_eq ▸ this
        exact ih e.on h3 (by omega)
      rw [hr] at hmem
      cases hmem
theorem wpAny_tail {l : List Oper} {n : Nat} (hB : freeTailB l n = true) : ∀ (f : Nat) (x y : Array Bool) (a : Act) (w : World), Agree l n x y → HeadInv .any l.toArray n y →
    wpAny P .any (l.take n).toArray (withTail Q (wpList P l.toArray Q (l.drop n))) f x a w → wpAny P .any l.toArray Q (f + (l.length - n)) y a w := by
  unfold freeTailB at hB
  simp only [Bool.and_eq_true] at hB
  obtain ⟨⟨⟨⟨⟨h1, h2⟩, h3⟩, h4⟩, h5⟩, h6⟩ := hB
  have hn : n < l.length := Nat.blt_eq ▸ h1
  have last : ∀ (f : Nat) (x y : Array Bool) (a : Act) (w : World), Agree l n x y → Region.ready .any (l.take n).toArray x = [] → wpList P l.toArray Q (l.drop n) a w → wpAny P .any l.toArray Q (f + (l.length - n)) y a w := by
    intro f x y a w hA hr hT
    have hall := ready_least hA.size' (by omega) h5 hr
    have hx : x = Array.replicate n true := by
      apply Array.ext_getElem?
      intro j
      by_cases hj : j < n
      · have := hall j hj
        have hjs : j < x.size := by rw [hA.size']; exact hj
        simp [hjs, hj] at this ⊢
        exact this
      · rw [Array.getElem?_eq_none (by rw [hA.size']; omega), Array.getElem?_eq_none (by simp; omega)]
    have hy : y = (Array.replicate n true) ++ Array.replicate (l.length - n) false := by rw [hA.eq, hx]
    rw [hy, Nat.add_comm]
    refine wpAny_more _ _ _ _ _ ?_
    have := wpAny_of_seq (P := P) (md := .any) (ops := l.toArray) (Q' := Q) (l.drop n) n ((Array.replicate n true) ++ Array.replicate (l.length - n) false) a w (fun j => by simp [List.getElem?_drop]) (by simpa using h6) hT
    simpa using this
  intro f
  induction f with
  | zero =>
    intro x y a w hA inv h
    exact last 0 x y a w hA h.1 h.2
  | succ f ih =>
    intro x y a w hA inv h
    cases hr : Region.ready .any (l.take n).toArray x with
    | nil =>
      exact last (f + 1) x y a w hA hr (h.1 hr)
    | cons i0 rest =>
      have hi0 : i0 ∈ Region.ready .any (l.take n).toArray x := by rw [hr]; simp
      have hlt : ∀ i, i ∈ Region.ready .any (l.take n).toArray x → i < n := fun i hi => by
        obtain ⟨_, o, ho, _⟩ := mem_ready.1 hi
        have := (Array.getElem?_eq_some_iff.1 ho).1
        simp at this
        omega
      have hi0n := hlt i0 hi0
      have hi0r := (hA.ready h5 hi0n).1 hi0
      rw [show f + 1 + (l.length - n) = (f + (l.length - n)) + 1 by omega]
      refine ⟨fun h0 => (by rw [h0] at hi0r; cases hi0r), fun i hi => ?_⟩
      have hin : i < n := by
        rcases Nat.lt_or_ge i n with h' | h'
        · exact h'
        · exact absurd hi (tail_waits h2 h3 (by simpa using hn) inv _ i0 rfl hi0n (mem_ready.1 hi0r).1 i h')
      have hi' := (hA.ready h5 hin).2 hi
      exact wpOp_tail hin h4 (wpOp_mono (fun a' w' h' => ih _ _ a' w' (hA.set hin) (inv.set hi hin) h') (h.2 i hi'))
/-- One walk of the head in the text's order serves every order; the tail is walked as it stands. -/
theorem wp_region_free_tail {id : Nat} {a : Act} {w : World} {l : List Oper} (n : Nat) (hm : P.follows .mixedOrders = true) (hT : freeTailB l n = true) (hB : Region.lexB .any (l.take n).toArray = true)
    (hC : lexChain (l.take n).toArray (l.take n).length 0 (Array.replicate (l.take n).toArray.size false) = true)
    (h : wpFree P (l.take n).toArray (Keeps w) (fun known a' => ∀ w', Below w.heap.size w w' → (∀ i, known i w') → wpList P l.toArray Q (l.drop n) a' w') (l.take n) 0 (fun _ _ => True) a) : (Code.region id l.toArray true).wp P Q a w := by
  have hn : n < l.length := by
    have h1 := hT
    unfold freeTailB at h1
    simp only [Bool.and_eq_true] at h1
    exact Nat.blt_eq ▸ h1.1.1.1.1.1
  simp only [Region.lexB, Bool.and_eq_true] at hB
  refine wp_region_any hm ?_
  have H : wpAny P .any (l.take n).toArray (withTail Q (wpList P l.toArray Q (l.drop n))) n (Array.replicate n false) a { w with drawn := w.drawn + 1 } := by
    refine wpAny_of_free (Q := fun known a' => ∀ w', Below w.heap.size w w' → (∀ i, known i w') → wpList P l.toArray Q (l.drop n) a' w') (keeps_firm w) (fun _ _ w' hw' h => h w' hw'.1.below hw'.2) _ _ (fun _ _ => True) _ _ (fun _ _ _ _ _ => trivial)
      ⟨⟨w.drew, (World.over_of ((Below.refl _ _).drew)).symm⟩, fun _ => trivial⟩ ?_
    have := wpAnyF_lex hB.1 (keeps_firm w) (l.take n) 0 (Array.replicate (l.take n).toArray.size false) (fun _ _ => True) a (fun j => by simp) (by simpa using hB.2) hC (fun _ _ _ _ _ => trivial) h
    have hl : (l.take n).length = n := by simp; omega
    rw [hl] at this
    simpa [show min n l.length = n by omega] using this
  have inv0 : HeadInv .any l.toArray n (Array.replicate l.length false) :=
    ⟨by simp, fun j oj _ hl => (by rw [getD_replicate_false] at hl; cases hl), fun t _ ht => getD_in (by simpa using ht) (getD_replicate_false _ _)⟩
  have := wpAny_tail hT n (Array.replicate n false) (Array.replicate l.length false) a _ ⟨by simp, by rw [Array.replicate_append_replicate]; congr 1; omega⟩ inv0 H
  rw [show n + (l.length - n) = l.toArray.size by simp; omega] at this
  simpa using this
end
end Go
