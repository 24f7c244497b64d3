/- Regions that draw their order: one walk in the text's order (XSoft); operations that are marked hand back one value, whatever memory they make. -/
import Derived.Test.YtdmglpnieiiigaaDoorSoft
import Derived.Test.YtdmglpnieiiigaaDoorTail
namespace Go
open Go.RowKit
section
variable {P : Program} {ops : Array Oper} {E : World → Prop} {Q : (Nat → World → Prop) → Act → Prop} {mk : Nat → Bool}

def Oper.valUpon (P : Program) (w : World) (v : Value) : Result Next → Prop
  | .ok (.value u) w' => Ext w w' ∧ u = v
  | .ok (.enter f args) w' => w' = w ∧ Calls P f args w (fun e w'' => e = .returned v ∧ Ext w w'')
  | _ => False
def Oper.valAt (P : Program) (o : Oper) (a : Act) (D : World → Prop) (v : Value) : Prop := ∀ w, D w → Oper.valUpon P w v ((execOp a.eval o).run P w)
theorem Oper.valAt.same {o : Oper} {a a' : Act} {D : World → Prop} {v : Value} (h : o.valAt P a D v) (he : execOp a'.eval o = execOp a.eval o) : o.valAt P a' D v := by
  unfold Oper.valAt at *
  rw [he]
  exact h
def sOp2 (mk : Nat → Bool) (P : Program) (ops : Array Oper) (E : World → Prop) (j : Nat) (K : (Nat → World → Prop) → Act → Prop) (known : Nat → World → Prop) (a : Act) : Prop :=
  match ops[j]? with
  | none => K known a
  | some o =>
    if Region.wanted o (yielded ops a.tmps) = true then
      if (o.isHard || mk j) = true then ∃ v, o.valAt P a (Vis ops E known j) v ∧ K known (a.put o.dst v)
      else ∃ (ι : Type) (val : ι → Value) (F : ι → World → Prop), (∀ i, Firm (F i)) ∧ o.softAt P a (Vis ops E known j) val F ∧ ∀ i, K (upd known j (F i)) (a.put o.dst (val i))
    else K known (a.put o.dst undef)

theorem sOp2_mono {j : Nat} {K K' : (Nat → World → Prop) → Act → Prop} {known : Nat → World → Prop} {a : Act} (h : ∀ k a, K k a → K' k a) (hh : sOp2 mk P ops E j K known a) : sOp2 mk P ops E j K' known a := by
  unfold sOp2 at *
  split
  · rename_i ho; simp only [ho] at hh; exact h _ _ hh
  · rename_i o ho
    simp only [ho] at hh
    split
    · rename_i hw
      rw [if_pos hw] at hh
      split
      · rename_i hd
        rw [if_pos hd] at hh
        obtain ⟨v, h1, h2⟩ := hh
        exact ⟨v, h1, h _ _ h2⟩
      · rename_i hd
        rw [if_neg hd] at hh
        obtain ⟨ι, val, F, h1, h2, h3⟩ := hh
        exact ⟨ι, val, F, h1, h2, fun i => h _ _ (h3 i)⟩
    · rename_i hw
      rw [if_neg hw] at hh
      exact h _ _ hh

/-- Whatever order is picked from here on; nothing is asked where no world is left. -/
def wpAnyF2 (mk : Nat → Bool) (P : Program) (ops : Array Oper) (E : World → Prop) (Q : (Nat → World → Prop) → Act → Prop) : Nat → Array Bool → (Nat → World → Prop) → Act → Prop
  | 0, listed, known, a => (∃ w, AllOk E known w) → Region.ready .any ops listed = [] ∧ Q known a
  | fuel + 1, listed, known, a => (∃ w, AllOk E known w) →
    (Region.ready .any ops listed = [] → Q known a) ∧
    ∀ i ∈ Region.ready .any ops listed, sOp2 mk P ops E i (wpAnyF2 mk P ops E Q fuel (listed.setIfInBounds i true)) known a

theorem wpOp_of_sOp2 {j : Nat} {K : (Nat → World → Prop) → Act → Prop} {K' : Act → World → Prop} {Q' : Exit → Act → World → Prop} {known : Nat → World → Prop} {a : Act} {w : World}
    (hE : Firm E) (hk : ∀ i, Firm (known i)) (hw : AllOk E known w)
    (h : ∀ known' a' w', (∀ i, Firm (known' i)) → AllOk E known' w' → K known' a' → K' a' w') (hh : sOp2 mk P ops E j K known a) : wpOp P ops Q' j K' a w := by
  unfold sOp2 at hh
  unfold wpOp
  split
  · rename_i ho; simp only [ho] at hh; exact h _ _ _ hk hw hh
  · rename_i o ho
    simp only [ho] at hh
    split
    · rename_i hwt
      rw [if_pos hwt] at hh
      refine .inl ?_
      split at hh
      · rename_i hd
        obtain ⟨v, h1, h2⟩ := hh
        have h3 := h1 w (hw.vis j)
        unfold Oper.wp
        generalize (execOp a.eval o).run P w = r at *
        cases r with
        | ok n w' =>
          cases n <;> simp only [Oper.valUpon] at h3 <;> simp only [Oper.upon]
          case value u =>
            obtain ⟨e1, rfl⟩ := h3
            exact h _ _ _ hk (hw.ext hE hk e1) h2
          case enter f args =>
            obtain ⟨rfl, hc⟩ := h3
            exact hc.mono fun e w'' ⟨hr, he⟩ => by
              subst hr
              exact h _ _ _ hk (hw.ext hE hk he) h2
        | halt x w' => simp only [Oper.valUpon] at h3
      · rename_i hd
        obtain ⟨ι, val, F, h0, h1, h2⟩ := hh
        have h3 := h1 w (hw.vis j)
        unfold Oper.wp
        generalize (execOp a.eval o).run P w = r at *
        cases r with
        | ok n w' =>
          cases n <;> simp only [Oper.softUpon] at h3 <;> simp only [Oper.upon]
          case value u =>
            obtain ⟨e1, i, rfl, hF⟩ := h3
            exact h _ _ _ (firm_upd hk (h0 i)) ((hw.ext hE hk e1).upd hF) (h2 i)
          case skip =>
            obtain ⟨e1, i, e2, hF⟩ := h3
            rw [e2]
            exact h _ _ _ (firm_upd hk (h0 i)) ((hw.ext hE hk e1).upd hF) (h2 i)
          case enter f args =>
            obtain ⟨rfl, hc⟩ := h3
            exact hc.mono fun e w'' ⟨he, i, hr, hF⟩ => by
              subst hr
              exact h _ _ _ (firm_upd hk (h0 i)) ((hw.ext hE hk he).upd hF) (h2 i)
        | halt x w' => simp only [Oper.softUpon] at h3
    · rename_i hwt
      rw [if_neg hwt] at hh
      exact h _ _ _ hk hw hh

theorem wpAny_of_free2 {Q' : Exit → Act → World → Prop} (hE : Firm E) (hQ : ∀ known a w, AllOk E known w → Q known a → Q' .normal a w) : ∀ (fuel : Nat) (listed : Array Bool) (known : Nat → World → Prop) (a : Act) (w : World), (∀ i, Firm (known i)) → AllOk E known w →
    wpAnyF2 mk P ops E Q fuel listed known a → wpAny P .any ops Q' fuel listed a w
  | 0, _, _, _, w, _, hw, h => by
    have := h ⟨w, hw⟩
    exact ⟨this.1, hQ _ _ _ hw this.2⟩
  | fuel + 1, _, _, _, w, hk, hw, h => by
    have := h ⟨w, hw⟩
    exact ⟨fun h0 => hQ _ _ _ hw (this.1 h0), fun i hi => wpOp_of_sOp2 hE hk hw (fun k' a' w' hk' hw' => wpAny_of_free2 hE hQ fuel _ k' a' w' hk' hw') (this.2 i hi)⟩

/-- A hard operation that may come up now may be taken first. -/
theorem wpAnyF_first_hard2 {i : Nat} {oi : Oper} {v : Value} (hi : ops[i]? = some oi) (hhi : (oi.isHard || mk i) = true) (hsel : ∀ (j : Nat) (o : Oper) cs b, ops[j]? = some o → o.op ≠ .select cs b) :
    ∀ (fuel : Nat) (listed : Array Bool) (known : Nat → World → Prop) (a : Act),
      (∀ j oj, ops[j]? = some oj → j ≠ i → listed.getD j true = false → (∀ e ∈ oj.after, Region.binds .any e = true → e.on ≠ i) → oi.apart ops oj = true) →
      i ∈ Region.ready .any ops listed → Region.wanted oi (yielded ops a.tmps) = true → oi.valAt P a (Vis ops E known i) v →
      wpAnyF2 mk P ops E Q fuel (listed.setIfInBounds i true) known (a.put oi.dst v) → wpAnyF2 mk P ops E Q (fuel + 1) listed known a := by
  intro fuel
  have own : ∀ {K : (Nat → World → Prop) → Act → Prop} {known : Nat → World → Prop} {a : Act}, Region.wanted oi (yielded ops a.tmps) = true → oi.valAt P a (Vis ops E known i) v → K known (a.put oi.dst v) → sOp2 mk P ops E i K known a := by
    intro K known a hw hy h
    unfold sOp2
    simp only [hi]
    rw [if_pos hw, if_pos hhi]
    exact ⟨v, hy, h⟩
  induction fuel with
  | zero =>
    intro listed known a _ hr hwt hy H ⟨w, hw⟩
    refine ⟨fun h => (by rw [h] at hr; cases hr), fun j hj => ?_⟩
    by_cases hji : j = i
    · subst hji; exact own hwt hy H
    · have h1 := H ⟨w, hw⟩
      have := ready_mono hj hji
      rw [h1.1] at this
      cases this
  | succ fuel ih =>
    intro listed known a hfree hr hwt hy H ⟨w, hw⟩
    refine ⟨fun h => (by rw [h] at hr; cases hr), fun j hj => ?_⟩
    by_cases hji : j = i
    · subst hji; exact own hwt hy H
    have h1 := (H ⟨w, hw⟩).2 j (ready_mono hj hji)
    obtain ⟨hjun, oj, hoj, hall⟩ := mem_ready.1 hj
    obtain ⟨hiun, oi', hoi', halli⟩ := mem_ready.1 hr
    have hnot : ∀ e ∈ oj.after, Region.binds .any e = true → e.on ≠ i := fun e he hb heq => by
      have h1 := hall e he hb
      rw [heq] at h1
      rcases Nat.lt_or_ge i listed.size with h' | h'
      · simp [h'] at hiun h1; rw [hiun] at h1; cases h1
      · simp [Array.getElem?_eq_none h'] at h1
    have hnot' : ∀ e ∈ oi.after, Region.binds .any e = true → e.on ≠ j := fun e he hb heq => by
      rw [hi] at hoi'
      cases hoi'
      have h1 := halli e he hb
      rw [heq] at h1
      rcases Nat.lt_or_ge j listed.size with h' | h'
      · simp [h'] at hjun h1; rw [hjun] at h1; cases h1
      · simp [Array.getElem?_eq_none h'] at h1
    have wij := waits_false hi hnot'
    have hap := hfree j oj hoj hji hjun hnot
    obtain ⟨p1, p2, p3⟩ := Oper.apart_spec hap
    have hfree' : ∀ k ok, ops[k]? = some ok → k ≠ i → (listed.setIfInBounds j true).getD k true = false →
        (∀ e ∈ ok.after, Region.binds .any e = true → e.on ≠ i) → oi.apart ops ok = true := fun k ok hk hki hun hno => by
      refine hfree k ok hk hki ?_ hno
      by_cases hjk : j = k
      · subst hjk; exact hjun
      · rw [getD_set_ne true hjk] at hun; exact hun
    have next : ∀ (known' : Nat → World → Prop) (u : Value), Vis ops E known' i = Vis ops E known i →
        wpAnyF2 mk P ops E Q fuel ((listed.setIfInBounds i true).setIfInBounds j true) known' ((a.put oi.dst v).put oj.dst u) →
        wpAnyF2 mk P ops E Q (fuel + 1) (listed.setIfInBounds j true) known' (a.put oj.dst u) := by
      intro known' u hv h
      refine ih (listed.setIfInBounds j true) known' (a.put oj.dst u) hfree' (ready_mono hr (Ne.symm hji)) ?_ ?_ ?_
      · rw [wanted_put oi a oj.dst u p3]; exact hwt
      · rw [hv]; exact hy.same (execOp_put oi (fun cs b => hsel i oi cs b hi) a oj.dst u p3)
      · rw [Array.setIfInBounds_comm _ _ hji, ← Act.put_comm a v u p2]; exact h
    unfold sOp2 at h1 ⊢
    simp only [hoj] at h1 ⊢
    rw [wanted_put oj a oi.dst v p1] at h1
    split
    · rename_i hwj
      rw [if_pos hwj] at h1
      split
      · rename_i hd
        rw [if_pos hd] at h1
        obtain ⟨u, hu, hn⟩ := h1
        exact ⟨u, hu.same (execOp_put oj (fun cs b => hsel j oj cs b hoj) a oi.dst v p1).symm, next _ u rfl hn⟩
      · rename_i hd
        rw [if_neg hd] at h1
        obtain ⟨ι, val, F, hF, hs, hn⟩ := h1
        exact ⟨ι, val, F, hF, hs.same (execOp_put oj (fun cs b => hsel j oj cs b hoj) a oi.dst v p1).symm, fun x => next _ (val x) (Vis_upd wij) (hn x)⟩
    · rename_i hwj
      rw [if_neg hwj] at h1
      exact next known undef rfl h1

/-- An operation that is passed over may be taken first. -/
theorem wpAnyF_first_skip2 {i : Nat} {oi : Oper} (hi : ops[i]? = some oi) (hsel : ∀ (j : Nat) (o : Oper) cs b, ops[j]? = some o → o.op ≠ .select cs b) :
    ∀ (fuel : Nat) (listed : Array Bool) (known : Nat → World → Prop) (a : Act),
      (∀ j oj, ops[j]? = some oj → j ≠ i → listed.getD j true = false → (∀ e ∈ oj.after, Region.binds .any e = true → e.on ≠ i) → oi.apart ops oj = true) →
      i ∈ Region.ready .any ops listed → Region.wanted oi (yielded ops a.tmps) = false →
      wpAnyF2 mk P ops E Q fuel (listed.setIfInBounds i true) known (a.put oi.dst undef) → wpAnyF2 mk P ops E Q (fuel + 1) listed known a := by
  intro fuel
  have own : ∀ {K : (Nat → World → Prop) → Act → Prop} {known : Nat → World → Prop} {a : Act}, Region.wanted oi (yielded ops a.tmps) = false → K known (a.put oi.dst undef) → sOp2 mk P ops E i K known a := by
    intro K known a hw h
    unfold sOp2
    simp only [hi]
    rw [if_neg (by rw [hw]; exact Bool.false_ne_true)]
    exact h
  induction fuel with
  | zero =>
    intro listed known a _ hr hwt H ⟨w, hw⟩
    refine ⟨fun h => (by rw [h] at hr; cases hr), fun j hj => ?_⟩
    by_cases hji : j = i
    · subst hji; exact own hwt H
    · have h1 := H ⟨w, hw⟩
      have := ready_mono hj hji
      rw [h1.1] at this
      cases this
  | succ fuel ih =>
    intro listed known a hfree hr hwt H ⟨w, hw⟩
    refine ⟨fun h => (by rw [h] at hr; cases hr), fun j hj => ?_⟩
    by_cases hji : j = i
    · subst hji; exact own hwt H
    have h1 := (H ⟨w, hw⟩).2 j (ready_mono hj hji)
    obtain ⟨hjun, oj, hoj, hall⟩ := mem_ready.1 hj
    obtain ⟨hiun, oi', hoi', halli⟩ := mem_ready.1 hr
    have hnot : ∀ e ∈ oj.after, Region.binds .any e = true → e.on ≠ i := fun e he hb heq => by
      have h1 := hall e he hb
      rw [heq] at h1
      rcases Nat.lt_or_ge i listed.size with h' | h'
      · simp [h'] at hiun h1; rw [hiun] at h1; cases h1
      · simp [Array.getElem?_eq_none h'] at h1
    have hap := hfree j oj hoj hji hjun hnot
    obtain ⟨p1, p2, p3⟩ := Oper.apart_spec hap
    have hfree' : ∀ k ok, ops[k]? = some ok → k ≠ i → (listed.setIfInBounds j true).getD k true = false →
        (∀ e ∈ ok.after, Region.binds .any e = true → e.on ≠ i) → oi.apart ops ok = true := fun k ok hk hki hun hno => by
      refine hfree k ok hk hki ?_ hno
      by_cases hjk : j = k
      · subst hjk; exact hjun
      · rw [getD_set_ne true hjk] at hun; exact hun
    have next : ∀ (known' : Nat → World → Prop) (u : Value),
        wpAnyF2 mk P ops E Q fuel ((listed.setIfInBounds i true).setIfInBounds j true) known' ((a.put oi.dst undef).put oj.dst u) →
        wpAnyF2 mk P ops E Q (fuel + 1) (listed.setIfInBounds j true) known' (a.put oj.dst u) := by
      intro known' u h
      refine ih (listed.setIfInBounds j true) known' (a.put oj.dst u) hfree' (ready_mono hr (Ne.symm hji)) ?_ ?_
      · rw [wanted_put oi a oj.dst u p3]; exact hwt
      · rw [Array.setIfInBounds_comm _ _ hji, ← Act.put_comm a undef u p2]; exact h
    unfold sOp2 at h1 ⊢
    simp only [hoj] at h1 ⊢
    rw [wanted_put oj a oi.dst undef p1] at h1
    split
    · rename_i hwj
      rw [if_pos hwj] at h1
      split
      · rename_i hd
        rw [if_pos hd] at h1
        obtain ⟨u, hu, hn⟩ := h1
        exact ⟨u, hu.same (execOp_put oj (fun cs b => hsel j oj cs b hoj) a oi.dst undef p1).symm, next _ u hn⟩
      · rename_i hd
        rw [if_neg hd] at h1
        obtain ⟨ι, val, F, hF, hs, hn⟩ := h1
        exact ⟨ι, val, F, hF, hs.same (execOp_put oj (fun cs b => hsel j oj cs b hoj) a oi.dst undef p1).symm, fun x => next _ (val x) (hn x)⟩
    · rename_i hwj
      rw [if_neg hwj] at h1
      exact next known undef h1

/-- A soft operation that may come up now may be taken first, if all others wait for it or are hard. -/
theorem wpAnyF_first_soft2 {i : Nat} {oi : Oper} {ι : Type} {val : ι → Value} {F : ι → World → Prop} (hi : ops[i]? = some oi) (hhi : (oi.isHard || mk i) = false) (hE : Firm E) (hsel : ∀ (j : Nat) (o : Oper) cs b, ops[j]? = some o → o.op ≠ .select cs b) (hF : ∀ x, Firm (F x)) :
    ∀ (fuel : Nat) (listed : Array Bool) (known : Nat → World → Prop) (a : Act), (∀ k, Firm (known k)) →
      (∀ j oj, ops[j]? = some oj → j ≠ i → listed.getD j true = false → (∀ e ∈ oj.after, Region.binds .any e = true → e.on ≠ i) → oi.apart ops oj = true) → chained ops i listed →
      i ∈ Region.ready .any ops listed → Region.wanted oi (yielded ops a.tmps) = true → oi.softAt P a (Vis ops E known i) val F →
      (∀ x, wpAnyF2 mk P ops E Q fuel (listed.setIfInBounds i true) (upd known i (F x)) (a.put oi.dst (val x))) → wpAnyF2 mk P ops E Q (fuel + 1) listed known a := by
  intro fuel
  have own : ∀ {K : (Nat → World → Prop) → Act → Prop} {known : Nat → World → Prop} {a : Act}, Region.wanted oi (yielded ops a.tmps) = true → oi.softAt P a (Vis ops E known i) val F → (∀ x, K (upd known i (F x)) (a.put oi.dst (val x))) → sOp2 mk P ops E i K known a := by
    intro K known a hw hy h
    unfold sOp2
    simp only [hi]
    rw [if_pos hw, if_neg (by rw [hhi]; exact Bool.false_ne_true)]
    exact ⟨ι, val, F, hF, hy, h⟩
  have some_x : ∀ {known : Nat → World → Prop} {a : Act} {w : World}, (∀ k, Firm (known k)) → AllOk E known w → oi.softAt P a (Vis ops E known i) val F → ∃ x w', AllOk E (upd known i (F x)) w' := by
    intro known a w hk hw hy
    have h3 := hy w (hw.vis i)
    generalize (execOp a.eval oi).run P w = r at *
    cases r with
    | ok n w' =>
      cases n <;> simp only [Oper.softUpon] at h3
      case value u =>
        obtain ⟨e1, x, _, hx⟩ := h3
        exact ⟨x, w', (hw.ext hE hk e1).upd hx⟩
      case skip =>
        obtain ⟨e1, x, _, hx⟩ := h3
        exact ⟨x, w', (hw.ext hE hk e1).upd hx⟩
      case enter f args =>
        obtain ⟨rfl, hc⟩ := h3
        obtain ⟨e, w'', fr, ⟨he, x, _, hx⟩, _⟩ := hc []
        exact ⟨x, w'', (hw.ext hE hk he).upd hx⟩
    | halt x w' => simp only [Oper.softUpon] at h3
  induction fuel with
  | zero =>
    intro listed known a hk _ _ hr hwt hy H ⟨w, hw⟩
    refine ⟨fun h => (by rw [h] at hr; cases hr), fun j hj => ?_⟩
    by_cases hji : j = i
    · subst hji; exact own hwt hy H
    · obtain ⟨x, w', hx⟩ := some_x hk hw hy
      have h1 := H x ⟨w', hx⟩
      have := ready_mono hj hji
      rw [h1.1] at this
      cases this
  | succ fuel ih =>
    intro listed known a hk hfree hlink hr hwt hy H ⟨w, hw⟩
    refine ⟨fun h => (by rw [h] at hr; cases hr), fun j hj => ?_⟩
    by_cases hji : j = i
    · subst hji; exact own hwt hy H
    obtain ⟨hjun, oj, hoj, hall⟩ := mem_ready.1 hj
    obtain ⟨hiun, oi', hoi', halli⟩ := mem_ready.1 hr
    have unl : ∀ k, listed.getD k true = false → listed[k]? ≠ some true := fun k h h' => by
      rcases Nat.lt_or_ge k listed.size with hl | hl
      · simp [hl] at h h'; rw [h] at h'; cases h'
      · simp [Array.getElem?_eq_none hl] at h'
    have hnot : ∀ e ∈ oj.after, Region.binds .any e = true → e.on ≠ i := fun e he hb heq => by
      have h1 := hall e he hb
      rw [heq] at h1
      rcases Nat.lt_or_ge i listed.size with h' | h'
      · simp [h'] at hiun h1; rw [hiun] at h1; cases h1
      · simp [Array.getElem?_eq_none h'] at h1
    have hhj : oj.isHard = true := by
      by_cases hh : oj.isHard = true
      · exact hh
      · exact absurd hj ((hlink j oj hoj (by simpa using hh) hji hjun).not_ready hiun)
    have hhj2 : (oj.isHard || mk j) = true := by rw [hhj, Bool.true_or]
    have hnot' : ∀ e ∈ oi.after, Region.binds .any e = true → e.on ≠ j := fun e he hb heq => by
      rw [hi] at hoi'
      cases hoi'
      have h1 := halli e he hb
      rw [heq] at h1
      rcases Nat.lt_or_ge j listed.size with h' | h'
      · simp [h'] at hjun h1; rw [hjun] at h1; cases h1
      · simp [Array.getElem?_eq_none h'] at h1
    have wji := waits_false hoj hnot
    have wij := waits_false hi hnot'
    have hap := hfree j oj hoj hji hjun hnot
    obtain ⟨p1, p2, p3⟩ := Oper.apart_spec hap
    have hfree' : ∀ k ok, ops[k]? = some ok → k ≠ i → (listed.setIfInBounds j true).getD k true = false →
        (∀ e ∈ ok.after, Region.binds .any e = true → e.on ≠ i) → oi.apart ops ok = true := fun k ok hk hki hun hno => by
      refine hfree k ok hk hki ?_ hno
      by_cases hjk : j = k
      · subst hjk; exact hjun
      · rw [getD_set_ne true hjk] at hun; exact hun
    have next : ∀ (known' : Nat → World → Prop) (u : Value), (∀ k, Firm (known' k)) → Vis ops E known' i = Vis ops E known i →
        (∀ x, wpAnyF2 mk P ops E Q fuel ((listed.setIfInBounds i true).setIfInBounds j true) (upd known' i (F x)) ((a.put oi.dst (val x)).put oj.dst u)) →
        wpAnyF2 mk P ops E Q (fuel + 1) (listed.setIfInBounds j true) known' (a.put oj.dst u) := by
      intro known' u hk' hv h
      refine ih (listed.setIfInBounds j true) known' (a.put oj.dst u) hk' hfree' (chained_set hlink hiun hj hoj hhj) (ready_mono hr (Ne.symm hji)) ?_ ?_ fun x => ?_
      · rw [wanted_put oi a oj.dst u p3]; exact hwt
      · rw [hv]; exact hy.same (execOp_put oi (fun cs b => hsel i oi cs b hi) a oj.dst u p3)
      · rw [Array.setIfInBounds_comm _ _ hji, ← Act.put_comm a (val x) u p2]; exact h x
    obtain ⟨x0, w0, hx0⟩ := some_x hk hw hy
    have key : ∀ x, (∃ w', AllOk E (upd known i (F x)) w') → sOp2 mk P ops E j (wpAnyF2 mk P ops E Q fuel ((listed.setIfInBounds i true).setIfInBounds j true)) (upd known i (F x)) (a.put oi.dst (val x)) :=
      fun x hx => (H x hx).2 j (ready_mono hj hji)
    unfold sOp2 at key ⊢
    simp only [hoj] at key ⊢
    by_cases hwj : Region.wanted oj (yielded ops a.tmps) = true
    · rw [if_pos hwj, if_pos hhj2]
      have k0 := key x0 ⟨w0, hx0⟩
      rw [wanted_put oj a oi.dst (val x0) p1, if_pos hwj, if_pos hhj2] at k0
      obtain ⟨u, hu, _⟩ := k0
      rw [Vis_upd wji] at hu
      have hu' := hu.same (execOp_put oj (fun cs b => hsel j oj cs b hoj) a oi.dst (val x0) p1).symm
      refine ⟨u, hu', ?_⟩
      refine next _ u hk rfl fun x => ?_
      by_cases hx : ∃ w', AllOk E (upd known i (F x)) w'
      · have kx := key x hx
        rw [wanted_put oj a oi.dst (val x) p1, if_pos hwj, if_pos hhj2] at kx
        obtain ⟨u', hv', hn⟩ := kx
        rw [Vis_upd wji] at hv'
        have hv'' := hv'.same (execOp_put oj (fun cs b => hsel j oj cs b hoj) a oi.dst (val x) p1).symm
        have e1 := hu' w (hw.vis j)
        have e2 := hv'' w (hw.vis j)
        unfold Oper.valAt at hu'
        cases hr0 : (execOp a.eval oj).run P w with
        | ok n w' =>
          obtain ⟨y, rfl⟩ := Oper.hard_value hhj hr0
          rw [hr0] at e1 e2
          obtain ⟨_, rfl⟩ := e1
          obtain ⟨_, rfl⟩ := e2
          exact hn
        | halt y w' => rw [hr0] at e1; exact e1.elim
      · cases fuel with
        | zero => exact fun h' => absurd h' hx
        | succ n => exact fun h' => absurd h' hx
    · rw [if_neg hwj]
      refine next known undef hk rfl fun x => ?_
      by_cases hx : ∃ w', AllOk E (upd known i (F x)) w'
      · have kx := key x hx
        rw [wanted_put oj a oi.dst (val x) p1, if_neg hwj] at kx
        exact kx
      · cases fuel with
        | zero => exact fun h' => absurd h' hx
        | succ n => exact fun h' => absurd h' hx

def lexChain2 (mk : Nat → Bool) (ops : Array Oper) : Nat → Nat → Array Bool → Bool
  | 0, _, _ => true
  | n + 1, k, listed => (match ops[k]? with | some o => o.isHard || mk k || chainFrom ops k listed | none => true) && lexChain2 mk ops n (k + 1) (listed.setIfInBounds k true)

def wpFree2 (mk : Nat → Bool) (P : Program) (ops : Array Oper) (E : World → Prop) (Q : (Nat → World → Prop) → Act → Prop) : List Oper → Nat → (Nat → World → Prop) → Act → Prop
  | [], _, known, a => Q known a
  | o :: rest, j, known, a =>
    if Region.wanted o (yielded ops a.tmps) = true then
      if (o.isHard || mk j) = true then ∃ v, o.valAt P a (Vis ops E known j) v ∧ wpFree2 mk P ops E Q rest (j + 1) known (a.put o.dst v)
      else ∃ (ι : Type) (val : ι → Value) (F : ι → World → Prop), (∀ i, Firm (F i)) ∧ o.softAt P a (Vis ops E known j) val F ∧ ∀ i, wpFree2 mk P ops E Q rest (j + 1) (upd known j (F i)) (a.put o.dst (val i))
    else wpFree2 mk P ops E Q rest (j + 1) known (a.put o.dst undef)

theorem wpAnyF_lex2 (hs : Region.noSelect ops = true) (hE : Firm E) : ∀ (l : List Oper) (k : Nat) (listed : Array Bool) (known : Nat → World → Prop) (a : Act), (∀ j, l[j]? = ops[k + j]?) →
    Region.lexFrom .any ops l.length k listed = true → lexChain2 mk ops l.length k listed = true → (∀ i, Firm (known i)) → wpFree2 mk P ops E Q l k known a → wpAnyF2 mk P ops E Q l.length listed known a
  | [], _, _, _, _, _, hB, _, _, h => fun _ => ⟨by simpa [Region.lexFrom] using hB, h⟩
  | o :: l, k, listed, known, a, hl, hB, hC, hk, h => by
    have h0 : ops[k]? = some o := by simpa using (hl 0).symm
    simp only [List.length_cons, Region.lexFrom, Bool.and_eq_true] at hB
    obtain ⟨⟨hr, hf⟩, hB'⟩ := hB
    simp only [List.length_cons, lexChain2, h0, Bool.and_eq_true] at hC
    obtain ⟨hc, hC'⟩ := hC
    have hl' : ∀ j, l[j]? = ops[k + 1 + j]? := fun j => by have := hl (j + 1); simpa [Nat.add_assoc, Nat.add_comm 1 j] using this
    unfold wpFree2 at h
    by_cases hw : Region.wanted o (yielded ops a.tmps) = true
    · rw [if_pos hw] at h
      by_cases hd : (o.isHard || mk k) = true
      · rw [if_pos hd] at h
        obtain ⟨v, h1, h2⟩ := h
        exact wpAnyF_first_hard2 h0 hd (Region.noSelect_spec hs) l.length listed known a (Region.free_spec h0 hf) (by simpa using hr) hw h1 (wpAnyF_lex2 hs hE l (k + 1) _ known _ hl' hB' hC' hk h2)
      · rw [if_neg hd] at h
        obtain ⟨ι, val, F, h1, h2, h3⟩ := h
        have hd' : (o.isHard || mk k) = false := by simpa using hd
        rw [hd', Bool.false_or] at hc
        exact wpAnyF_first_soft2 h0 hd' hE (Region.noSelect_spec hs) h1 l.length listed known a hk (Region.free_spec h0 hf) (chainFrom_spec hc) (by simpa using hr) hw h2 fun x => wpAnyF_lex2 hs hE l (k + 1) _ _ _ hl' hB' hC' (firm_upd hk (h1 x)) (h3 x)
    · rw [if_neg hw] at h
      exact wpAnyF_first_skip2 h0 (Region.noSelect_spec hs) l.length listed known a (Region.free_spec h0 hf) (by simpa using hr) (by simpa using hw) (wpAnyF_lex2 hs hE l (k + 1) _ known _ hl' hB' hC' hk h)

/-- One walk of the text's order serves every order. -/
theorem wp_region_free2 {id : Nat} {Q : Exit → Act → World → Prop} {a : Act} {w : World} {l : List Oper} (hm : P.follows .mixedOrders = true) (hB : Region.lexB .any l.toArray = true)
    (hC : lexChain2 mk l.toArray l.length 0 (Array.replicate l.toArray.size false) = true)
    (h : wpFree2 mk P l.toArray (Keeps w) (fun known a' => ∀ w', Below w.heap.size w w' → (∀ i, known i w') → Q .normal a' w') l 0 (fun _ _ => True) a) : (Code.region id l.toArray true).wp P Q a w := by
  simp only [Region.lexB, Bool.and_eq_true] at hB
  refine wp_region_any hm (wpAny_of_free2 (mk := mk) (Q := fun known a' => ∀ w', Below w.heap.size w w' → (∀ i, known i w') → Q .normal a' w') (keeps_firm w) (fun _ _ w' hw' h => h w' hw'.1.below hw'.2) _ _ (fun _ _ => True) _ _ (fun _ _ _ _ _ => trivial)
    ⟨⟨w.drew, (World.over_of ((Below.refl _ _).drew)).symm⟩, fun _ => trivial⟩ ?_)
  have := wpAnyF_lex2 (mk := mk) hB.1 (keeps_firm w) l 0 (Array.replicate l.toArray.size false) (fun _ _ => True) a (fun j => by simp) (by simpa using hB.2) hC (fun _ _ _ _ _ => trivial) h
  simpa using this


section
variable {a : Act} {o : Oper} {rest : List Oper} {j : Nat} {known : Nat → World → Prop} {w : World}
theorem vfree_nil (h : Q known a) : wpFree2 mk P ops E Q [] j known a := h
/-- An operation that only computes, or reads what lay there. -/
theorem vfree_hard (hw : Region.wanted o (yielded ops a.tmps) = true) (hd : o.isHard = true) (h : ∀ K : Act → Prop, (∀ a', wpFree2 mk P ops (Keeps w) Q rest (j + 1) known a' → K a') → o.quiet P a (fun w' => ∃ n, w' = w.over n) K) : wpFree2 mk P ops (Keeps w) Q (o :: rest) j known a := by
  unfold wpFree2
  rw [if_pos hw, if_pos (by rw [hd, Bool.true_or])]
  obtain ⟨v, h1, h2⟩ := h _ (fun _ h => h)
  refine ⟨v, fun w' hw' => ?_, h2⟩
  have h3 := h1 w' hw'.1
  unfold Oper.quietAt at h3
  cases hr : (execOp a.eval o).run P w' with
  | ok n w'' =>
    obtain ⟨u, rfl⟩ := Oper.hard_value hd hr
    rw [hr] at h3
    obtain ⟨rfl, rfl⟩ := h3
    exact ⟨Below.refl _ _, rfl⟩
  | halt x w'' => rw [hr] at h3; exact h3.elim
/-- An operation that is passed over. -/
theorem vfree_skip {d : Option Tmp} (hdst : o.dst = d) (hw : Region.wanted o (yielded ops a.tmps) = false)
    (h : ∀ K : Act → Prop, (∀ a', wpFree2 mk P ops (Keeps w) Q rest (j + 1) known a' → K a') → (Oper.mk d (.move (.const undef)) 0 "" #[] none).quiet P a (fun _ => True) K) : wpFree2 mk P ops (Keeps w) Q (o :: rest) j known a := by
  subst hdst
  unfold wpFree2
  rw [if_neg (by rw [hw]; exact Bool.false_ne_true)]
  exact quiet_put (h _ fun _ h => h) ⟨w, trivial⟩
/-- An operation that reads what a call made. -/
theorem vfree_fact {d : Option Tmp} (v : Value) (hdst : o.dst = d) (hw : Region.wanted o (yielded ops a.tmps) = true) (hd : o.isHard = true) (h1 : ∀ w', Vis ops (Keeps w) known j w' → (execOp a.eval o).run P w' = .ok (.value v) w')
    (h : ∀ K : Act → Prop, (∀ a', wpFree2 mk P ops (Keeps w) Q rest (j + 1) known a' → K a') → (Oper.mk d (.move (.const v)) 0 "" #[] none).quiet P a (fun _ => True) K) : wpFree2 mk P ops (Keeps w) Q (o :: rest) j known a := by
  subst hdst
  unfold wpFree2
  rw [if_pos hw, if_pos (by rw [hd, Bool.true_or])]
  refine ⟨v, fun w' hw' => ?_, quiet_put (h _ fun _ h => h) ⟨w, trivial⟩⟩
  unfold Oper.valUpon
  rw [h1 w' hw']
  exact ⟨Below.refl _ _, rfl⟩
/-- A call that makes memory. -/
theorem vfree_soft {d : Option Tmp} {ι : Type} (val : ι → Value) (F : ι → World → Prop) (hdst : o.dst = d) (hw : Region.wanted o (yielded ops a.tmps) = true) (hd : (o.isHard || mk j) = false) (hF : ∀ i, Firm (F i))
    (hs : ∀ w', Vis ops (Keeps w) known j w' → Oper.softUpon P w' val F ((execOp a.eval o).run P w'))
    (h : ∀ i, ∀ K : Act → Prop, (∀ a', wpFree2 mk P ops (Keeps w) Q rest (j + 1) (upd known j (F i)) a' → K a') → (Oper.mk d (.move (.const (val i))) 0 "" #[] none).quiet P a (fun _ => True) K) : wpFree2 mk P ops (Keeps w) Q (o :: rest) j known a := by
  subst hdst
  unfold wpFree2
  rw [if_pos hw, if_neg (by rw [hd]; exact Bool.false_ne_true)]
  exact ⟨ι, val, F, hF, hs, fun i => quiet_put (h i _ fun _ h => h) ⟨w, trivial⟩⟩
/-- A call that makes memory, and hands back a plain value. -/
theorem vfree_value {d : Option Tmp} (v : Value) (hdst : o.dst = d) (hw : Region.wanted o (yielded ops a.tmps) = true) (hd : (o.isHard || mk j) = false)
    (hs : ∀ w', Vis ops (Keeps w) known j w' → Oper.softUpon P w' (fun _ : Unit => v) (fun _ _ => True) ((execOp a.eval o).run P w'))
    (h : ∀ K : Act → Prop, (∀ a', wpFree2 mk P ops (Keeps w) Q rest (j + 1) (upd known j fun _ => True) a' → K a') → (Oper.mk d (.move (.const v)) 0 "" #[] none).quiet P a (fun _ => True) K) : wpFree2 mk P ops (Keeps w) Q (o :: rest) j known a :=
  vfree_soft (w := w) (ι := Unit) (fun _ => v) (fun _ _ => True) hdst hw hd (fun _ _ _ _ _ => trivial) hs fun _ => h
/-- An operation that is marked: one value, whatever memory it makes. -/
theorem vfree_one {d : Option Tmp} (v : Value) (hdst : o.dst = d) (hw : Region.wanted o (yielded ops a.tmps) = true) (hd : (o.isHard || mk j) = true)
    (hs : ∀ w', Vis ops (Keeps w) known j w' → Oper.valUpon P w' v ((execOp a.eval o).run P w'))
    (h : ∀ K : Act → Prop, (∀ a', wpFree2 mk P ops (Keeps w) Q rest (j + 1) known a' → K a') → (Oper.mk d (.move (.const v)) 0 "" #[] none).quiet P a (fun _ => True) K) : wpFree2 mk P ops (Keeps w) Q (o :: rest) j known a := by
  subst hdst
  unfold wpFree2
  rw [if_pos hw, if_pos hd]
  exact ⟨v, hs, quiet_put (h _ fun _ h => h) ⟨w, trivial⟩⟩
@[go_sem] theorem valUpon_enter {w w' : World} {v : Value} {f : FuncId} {args : Array Value} :
    Oper.valUpon P w v (.ok (.enter f args) w') = (w' = w ∧ Calls P f args w (fun e w'' => e = .returned v ∧ Ext w w'')) := rfl
theorem Calls.one_same {f : FuncId} {args : Array Value} {v : Value} {w : World} (h : Calls P f args w fun e w' => e = .returned v ∧ w = w') : Calls P f args w (fun e w'' => e = .returned v ∧ Ext w w'') :=
  h.mono fun _ _ ⟨h1, h2⟩ => ⟨h1, h2 ▸ Below.refl _ _⟩
end
end
section
variable {P : Program} {Q : Exit → Act → World → Prop}
/-- The head once, in the text's order; the tail as it stands. -/
theorem wp_region_free_tail2 {id : Nat} {a : Act} {w : World} {l : List Oper} (n : Nat) (ms : List Nat) (hm : P.follows .mixedOrders = true) (hT : freeTailB l n = true) (hB : Region.lexB .any (l.take n).toArray = true)
    (hC : lexChain2 (fun j => ms.any (Nat.beq j)) (l.take n).toArray (l.take n).length 0 (Array.replicate (l.take n).toArray.size false) = true)
    (h : wpFree2 (fun j => ms.any (Nat.beq j)) P (l.take n).toArray (Keeps w) (fun known a' => ∀ w', Below w.heap.size w w' → (∀ i, known i w') → wpList P l.toArray Q (l.drop n) a' w') (l.take n) 0 (fun _ _ => True) a) : (Code.region id l.toArray true).wp P Q a w := by
  have hn : n < l.length := by
    have h1 := hT
    unfold freeTailB at h1
    simp only [Bool.and_eq_true] at h1
    exact Nat.blt_eq ▸ h1.1.1.1.1.1
  simp only [Region.lexB, Bool.and_eq_true] at hB
  refine wp_region_any hm ?_
  have H : wpAny P .any (l.take n).toArray (withTail Q (wpList P l.toArray Q (l.drop n))) n (Array.replicate n false) a { w with drawn := w.drawn + 1 } := by
    refine wpAny_of_free2 (mk := fun j => ms.any (Nat.beq j)) (Q := fun known a' => ∀ w', Below w.heap.size w w' → (∀ i, known i w') → wpList P l.toArray Q (l.drop n) a' w') (keeps_firm w) (fun _ _ w' hw' h => h w' hw'.1.below hw'.2) _ _ (fun _ _ => True) _ _ (fun _ _ _ _ _ => trivial)
      ⟨⟨w.drew, (World.over_of ((Below.refl _ _).drew)).symm⟩, fun _ => trivial⟩ ?_
    have := wpAnyF_lex2 (mk := fun j => ms.any (Nat.beq j)) hB.1 (keeps_firm w) (l.take n) 0 (Array.replicate (l.take n).toArray.size false) (fun _ _ => True) a (fun j => by simp) (by simpa using hB.2) hC (fun _ _ _ _ _ => trivial) h
    have hl : (l.take n).length = n := by simp; omega
    rw [hl] at this
    simpa [show min n l.length = n by omega] using this
  have inv0 : HeadInv .any l.toArray n (Array.replicate l.length false) :=
    ⟨by simp, fun j oj _ hl => (by rw [getD_replicate_false] at hl; cases hl), fun t _ ht => getD_in (by simpa using ht) (getD_replicate_false _ _)⟩
  have := wpAny_tail hT n (Array.replicate n false) (Array.replicate l.length false) a _ ⟨by simp, by rw [Array.replicate_append_replicate]; congr 1; omega⟩ inv0 H
  rw [show n + (l.length - n) = l.toArray.size by simp; omega] at this
  simpa using this
end
end Go
