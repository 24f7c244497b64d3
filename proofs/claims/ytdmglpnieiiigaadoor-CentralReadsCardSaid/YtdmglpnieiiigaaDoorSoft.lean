/- Regions that draw their order and whose calls make memory: one walk in the text's order serves every order. What a call hands back is known up to facts that stay true in every world that keeps what lay there. -/
import Derived.WalkKit
import Derived.Deep.QuietTactic
import Derived.BigQuiet
import Derived.Test.YtdmglpnieiiigaaDoorOver
namespace Go
open Go.RowKit

/-- What lay in w lies in w'. -/
abbrev Ext (w w' : World) : Prop := Below w.heap.size w w'
theorem Ext.trans {a b c : World} (h : Ext a b) (k : Ext b c) : Ext a c := Below.trans h (Below.mono k h.size)
/-- A fact that stays. -/
def Firm (F : World → Prop) : Prop := ∀ w w', F w → Ext w w' → F w'

/-- Operations that leave the world alone and enter no function. -/
def Oper.isHard (o : Oper) : Bool :=
  match o.op with
  | .move _ | .assign _ | .pick .. | .load .. | .binOp .. | .unOp .. | .convert .. | .fieldAddr .. | .field .. | .indexAddr .. | .index .. | .extract .. | .slice .. => true
  | .call c => match c.callee with
    | .builtin .len => true
    | .builtin .cap => true
    | .builtin .min => true
    | .builtin .max => true
    | _ => false
  | _ => false

theorem value_bind {α : Type} {s : Sem α} {f : α → Value} {P : Program} {w w' : World} {n : Next} (h : (do let x ← s; pure (Next.value (f x)) : Sem Next).run P w = .ok n w') : ∃ v, n = .value v := by
  rw [Sem.run_bind] at h
  cases hs : s.run P w with
  | ok v w1 =>
    rw [hs] at h
    simp only [Result.andThen_ok, Sem.run_pure] at h
    injection h with h1 _
    exact ⟨_, h1.symm⟩
  | halt x w1 =>
    rw [hs] at h
    simp [Result.andThen] at h

theorem Oper.hard_value {o : Oper} (ho : o.isHard = true) {P : Program} {a : Act} {w w' : World} {n : Next} (h : (execOp a.eval o).run P w = .ok n w') : ∃ v, n = .value v := by
  unfold execOp at h
  unfold Oper.isHard at ho
  split at h <;> rename_i heq <;> simp only [heq] at ho <;> first
    | (cases ho; done)
    | exact value_bind (f := id) h
    | exact value_bind h
    | (simp only [Sem.run_pure] at h; injection h with h1 _; exact ⟨_, h1.symm⟩)
    | skip
  split at ho <;> rename_i hc <;> simp only [resolve, hc, invoke, builtin, Sem.run_bind, Sem.run_pure, Result.andThen_ok] at h <;> first
    | (cases ho; done)
    | exact value_bind (f := id) (by simpa only [Sem.run_bind, Sem.run_pure, id] using h)

/-! ### What is known -/

def waitsOn (ops : Array Oper) (j i : Nat) : Bool := match ops[j]? with | some o => o.after.any fun e => Nat.beq e.on i && Region.binds .any e | none => false
def upd (known : Nat → World → Prop) (j : Nat) (F : World → Prop) : Nat → World → Prop := fun i w => (bif Nat.beq i j then F w else True) ∧ known i w
def dep (ops : Array Oper) (known : Nat → World → Prop) (j : Nat) : World → Prop := fun w => ∀ i, waitsOn ops j i = true → known i w
def Vis (ops : Array Oper) (E : World → Prop) (known : Nat → World → Prop) (j : Nat) (w : World) : Prop := E w ∧ dep ops known j w
def AllOk (E : World → Prop) (known : Nat → World → Prop) (w : World) : Prop := E w ∧ ∀ i, known i w

theorem upd_self {known : Nat → World → Prop} {j : Nat} {F : World → Prop} {w : World} : upd known j F j w ↔ F w ∧ known j w := by
  unfold upd
  rw [show Nat.beq j j = true from Nat.beq_refl j]
  rfl
theorem upd_ne {known : Nat → World → Prop} {j i : Nat} {F : World → Prop} (h : i ≠ j) : upd known j F i = known i := by
  funext w
  unfold upd
  rw [show Nat.beq i j = false from Bool.eq_false_iff.2 fun e => h (Nat.eq_of_beq_eq_true e)]
  simp
theorem upd_comm {known : Nat → World → Prop} {i j : Nat} {F G : World → Prop} (h : i ≠ j) : upd (upd known i F) j G = upd (upd known j G) i F := by
  funext k
  by_cases hi : k = i
  · subst hi
    rw [upd_ne h]
    funext w
    rw [propext upd_self, propext upd_self, upd_ne h]
  · by_cases hj : k = j
    · subst hj
      rw [upd_ne (j := i) hi]
      funext w
      rw [propext upd_self, propext upd_self, upd_ne hi]
    · rw [upd_ne hj, upd_ne hi, upd_ne hi, upd_ne hj]
theorem dep_upd {ops : Array Oper} {known : Nat → World → Prop} {i j : Nat} {F : World → Prop} (h : waitsOn ops j i = false) : dep ops (upd known i F) j = dep ops known j := by
  funext w
  unfold dep
  apply propext
  constructor
  · intro hh k hk
    have := hh k hk
    rwa [upd_ne (fun e => by subst e; rw [h] at hk; cases hk)] at this
  · intro hh k hk
    rw [upd_ne (fun e => by subst e; rw [h] at hk; cases hk)]
    exact hh k hk
theorem Vis_upd {ops : Array Oper} {E : World → Prop} {known : Nat → World → Prop} {i j : Nat} {F : World → Prop} (h : waitsOn ops j i = false) : Vis ops E (upd known i F) j = Vis ops E known j := by
  funext w
  unfold Vis
  rw [dep_upd h]
theorem AllOk.vis {ops : Array Oper} {E : World → Prop} {known : Nat → World → Prop} {w : World} (h : AllOk E known w) (j : Nat) : Vis ops E known j w := ⟨h.1, fun i _ => h.2 i⟩
theorem AllOk.upd {E : World → Prop} {known : Nat → World → Prop} {w : World} (h : AllOk E known w) {j : Nat} {F : World → Prop} (hF : F w) : AllOk E (upd known j F) w :=
  ⟨h.1, fun i => by
    by_cases hi : i = j
    · subst hi; exact upd_self.2 ⟨hF, h.2 i⟩
    · rw [upd_ne hi]; exact h.2 i⟩
theorem AllOk.ext {E : World → Prop} {known : Nat → World → Prop} (hE : Firm E) (hk : ∀ i, Firm (known i)) {w w' : World} (h : AllOk E known w) (he : Ext w w') : AllOk E known w' :=
  ⟨hE _ _ h.1 he, fun i => hk i _ _ (h.2 i) he⟩
theorem AllOk.of_upd {E : World → Prop} {known : Nat → World → Prop} {j : Nat} {F : World → Prop} {w : World} (h : AllOk E (Go.upd known j F) w) : AllOk E known w :=
  ⟨h.1, fun i => by
    have := h.2 i
    by_cases hi : i = j
    · subst hi; exact (upd_self.1 this).2
    · rwa [upd_ne hi] at this⟩
theorem firm_upd {known : Nat → World → Prop} (hk : ∀ i, Firm (known i)) {j : Nat} {F : World → Prop} (hF : Firm F) (i : Nat) : Firm (upd known j F i) := by
  by_cases hi : i = j
  · subst hi
    intro w w' h he
    obtain ⟨h1, h2⟩ := upd_self.1 h
    exact upd_self.2 ⟨hF _ _ h1 he, hk _ _ _ h2 he⟩
  · rw [upd_ne hi]; exact hk i
theorem firm_dep {ops : Array Oper} {known : Nat → World → Prop} (hk : ∀ i, Firm (known i)) (j : Nat) : Firm (dep ops known j) := fun _ _ h he i hi => hk i _ _ (h i hi) he

/-! ### One operation -/
section
variable {P : Program} {ops : Array Oper} {E : World → Prop} {Q : (Nat → World → Prop) → Act → Prop}

def Oper.hardAt (P : Program) (o : Oper) (a : Act) (D : World → Prop) (v : Value) : Prop := ∀ w, D w → (execOp a.eval o).run P w = .ok (.value v) w
def Oper.softUpon (P : Program) (w : World) {ι : Type} (val : ι → Value) (F : ι → World → Prop) : Result Next → Prop
  | .ok (.value u) w' => Ext w w' ∧ ∃ i, u = val i ∧ F i w'
  | .ok .skip w' => Ext w w' ∧ ∃ i, undef = val i ∧ F i w'
  | .ok (.enter f args) w' => w' = w ∧ Calls P f args w (fun e w'' => Ext w w'' ∧ ∃ i, e = .returned (val i) ∧ F i w'')
  | _ => False
def Oper.softAt (P : Program) (o : Oper) (a : Act) (D : World → Prop) {ι : Type} (val : ι → Value) (F : ι → World → Prop) : Prop := ∀ w, D w → Oper.softUpon P w val F ((execOp a.eval o).run P w)

def sOp (P : Program) (ops : Array Oper) (E : World → Prop) (j : Nat) (K : (Nat → World → Prop) → Act → Prop) (known : Nat → World → Prop) (a : Act) : Prop :=
  match ops[j]? with
  | none => K known a
  | some o =>
    if Region.wanted o (yielded ops a.tmps) = true then
      if o.isHard = true then ∃ v, o.hardAt P a (Vis ops E known j) v ∧ K known (a.put o.dst v)
      else ∃ (ι : Type) (val : ι → Value) (F : ι → World → Prop), (∀ i, Firm (F i)) ∧ o.softAt P a (Vis ops E known j) val F ∧ ∀ i, K (upd known j (F i)) (a.put o.dst (val i))
    else K known (a.put o.dst undef)

theorem sOp_mono {j : Nat} {K K' : (Nat → World → Prop) → Act → Prop} {known : Nat → World → Prop} {a : Act} (h : ∀ k a, K k a → K' k a) (hh : sOp P ops E j K known a) : sOp P ops E j K' known a := by
  unfold sOp at *
  split
  · rename_i ho; simp only [ho] at hh; exact h _ _ hh
  · rename_i o ho
    simp only [ho] at hh
    split
    · rename_i hw
      rw [if_pos hw] at hh
      split
      · rename_i hd
        rw [if_pos hd] at hh
        obtain ⟨v, h1, h2⟩ := hh
        exact ⟨v, h1, h _ _ h2⟩
      · rename_i hd
        rw [if_neg hd] at hh
        obtain ⟨ι, val, F, h1, h2, h3⟩ := hh
        exact ⟨ι, val, F, h1, h2, fun i => h _ _ (h3 i)⟩
    · rename_i hw
      rw [if_neg hw] at hh
      exact h _ _ hh

/-- Whatever order is picked from here on; nothing is asked where no world is left. -/
def wpAnyF (P : Program) (ops : Array Oper) (E : World → Prop) (Q : (Nat → World → Prop) → Act → Prop) : Nat → Array Bool → (Nat → World → Prop) → Act → Prop
  | 0, listed, known, a => (∃ w, AllOk E known w) → Region.ready .any ops listed = [] ∧ Q known a
  | fuel + 1, listed, known, a => (∃ w, AllOk E known w) →
    (Region.ready .any ops listed = [] → Q known a) ∧
    ∀ i ∈ Region.ready .any ops listed, sOp P ops E i (wpAnyF P ops E Q fuel (listed.setIfInBounds i true)) known a

theorem wpOp_of_sOp {j : Nat} {K : (Nat → World → Prop) → Act → Prop} {K' : Act → World → Prop} {Q' : Exit → Act → World → Prop} {known : Nat → World → Prop} {a : Act} {w : World}
    (hE : Firm E) (hk : ∀ i, Firm (known i)) (hw : AllOk E known w)
    (h : ∀ known' a' w', (∀ i, Firm (known' i)) → AllOk E known' w' → K known' a' → K' a' w') (hh : sOp P ops E j K known a) : wpOp P ops Q' j K' a w := by
  unfold sOp at hh
  unfold wpOp
  split
  · rename_i ho; simp only [ho] at hh; exact h _ _ _ hk hw hh
  · rename_i o ho
    simp only [ho] at hh
    split
    · rename_i hwt
      rw [if_pos hwt] at hh
      refine .inl ?_
      split at hh
      · rename_i hd
        obtain ⟨v, h1, h2⟩ := hh
        have h3 := h1 w (hw.vis j)
        unfold Oper.wp
        rw [h3]
        exact h _ _ _ hk hw h2
      · rename_i hd
        obtain ⟨ι, val, F, h0, h1, h2⟩ := hh
        have h3 := h1 w (hw.vis j)
        unfold Oper.wp
        generalize (execOp a.eval o).run P w = r at *
        cases r with
        | ok n w' =>
          cases n <;> simp only [Oper.softUpon] at h3 <;> simp only [Oper.upon]
          case value u =>
            obtain ⟨e1, i, rfl, hF⟩ := h3
            exact h _ _ _ (firm_upd hk (h0 i)) ((hw.ext hE hk e1).upd hF) (h2 i)
          case skip =>
            obtain ⟨e1, i, e2, hF⟩ := h3
            rw [e2]
            exact h _ _ _ (firm_upd hk (h0 i)) ((hw.ext hE hk e1).upd hF) (h2 i)
          case enter f args =>
            obtain ⟨rfl, hc⟩ := h3
            exact hc.mono fun e w'' ⟨he, i, hr, hF⟩ => by
              subst hr
              exact h _ _ _ (firm_upd hk (h0 i)) ((hw.ext hE hk he).upd hF) (h2 i)
        | halt x w' => simp only [Oper.softUpon] at h3
    · rename_i hwt
      rw [if_neg hwt] at hh
      exact h _ _ _ hk hw hh

theorem wpAny_of_free {Q' : Exit → Act → World → Prop} (hE : Firm E) (hQ : ∀ known a w, AllOk E known w → Q known a → Q' .normal a w) : ∀ (fuel : Nat) (listed : Array Bool) (known : Nat → World → Prop) (a : Act) (w : World), (∀ i, Firm (known i)) → AllOk E known w →
    wpAnyF P ops E Q fuel listed known a → wpAny P .any ops Q' fuel listed a w
  | 0, _, _, _, w, _, hw, h => by
    have := h ⟨w, hw⟩
    exact ⟨this.1, hQ _ _ _ hw this.2⟩
  | fuel + 1, _, _, _, w, hk, hw, h => by
    have := h ⟨w, hw⟩
    exact ⟨fun h0 => hQ _ _ _ hw (this.1 h0), fun i hi => wpOp_of_sOp hE hk hw (fun k' a' w' hk' hw' => wpAny_of_free hE hQ fuel _ k' a' w' hk' hw') (this.2 i hi)⟩

theorem Oper.hardAt.same {o : Oper} {a a' : Act} {D : World → Prop} {v : Value} (h : o.hardAt P a D v) (he : execOp a'.eval o = execOp a.eval o) : o.hardAt P a' D v := by
  unfold Oper.hardAt at *
  rw [he]
  exact h
theorem Oper.softAt.same {o : Oper} {a a' : Act} {D : World → Prop} {ι : Type} {val : ι → Value} {F : ι → World → Prop} (h : o.softAt P a D val F) (he : execOp a'.eval o = execOp a.eval o) : o.softAt P a' D val F := by
  unfold Oper.softAt at *
  rw [he]
  exact h

/-- What 'apart' leaves of an operation: another one's slot makes no difference to it. -/
theorem waits_false {j i : Nat} {oj : Oper} (hj : ops[j]? = some oj) (h : ∀ e ∈ oj.after, Region.binds .any e = true → e.on ≠ i) : waitsOn ops j i = false := by
  unfold waitsOn
  rw [hj]
  simp only
  rw [Bool.eq_false_iff]
  intro hc
  rw [Array.any_eq_true'] at hc
  obtain ⟨e, he, hb⟩ := hc
  simp only [Bool.and_eq_true] at hb
  exact h e he hb.2 (Nat.eq_of_beq_eq_true hb.1)

/-- A hard operation that may come up now may be taken first. -/
theorem wpAnyF_first_hard {i : Nat} {oi : Oper} {v : Value} (hi : ops[i]? = some oi) (hhi : oi.isHard = true) (hsel : ∀ (j : Nat) (o : Oper) cs b, ops[j]? = some o → o.op ≠ .select cs b) :
    ∀ (fuel : Nat) (listed : Array Bool) (known : Nat → World → Prop) (a : Act),
      (∀ j oj, ops[j]? = some oj → j ≠ i → listed.getD j true = false → (∀ e ∈ oj.after, Region.binds .any e = true → e.on ≠ i) → oi.apart ops oj = true) →
      i ∈ Region.ready .any ops listed → Region.wanted oi (yielded ops a.tmps) = true → oi.hardAt P a (Vis ops E known i) v →
      wpAnyF P ops E Q fuel (listed.setIfInBounds i true) known (a.put oi.dst v) → wpAnyF P ops E Q (fuel + 1) listed known a := by
  intro fuel
  have own : ∀ {K : (Nat → World → Prop) → Act → Prop} {known : Nat → World → Prop} {a : Act}, Region.wanted oi (yielded ops a.tmps) = true → oi.hardAt P a (Vis ops E known i) v → K known (a.put oi.dst v) → sOp P ops E i K known a := by
    intro K known a hw hy h
    unfold sOp
    simp only [hi]
    rw [if_pos hw, if_pos hhi]
    exact ⟨v, hy, h⟩
  induction fuel with
  | zero =>
    intro listed known a _ hr hwt hy H ⟨w, hw⟩
    refine ⟨fun h => (by rw [h] at hr; cases hr), fun j hj => ?_⟩
    by_cases hji : j = i
    · subst hji; exact own hwt hy H
    · have h1 := H ⟨w, hw⟩
      have := ready_mono hj hji
      rw [h1.1] at this
      cases this
  | succ fuel ih =>
    intro listed known a hfree hr hwt hy H ⟨w, hw⟩
    refine ⟨fun h => (by rw [h] at hr; cases hr), fun j hj => ?_⟩
    by_cases hji : j = i
    · subst hji; exact own hwt hy H
    have h1 := (H ⟨w, hw⟩).2 j (ready_mono hj hji)
    obtain ⟨hjun, oj, hoj, hall⟩ := mem_ready.1 hj
    obtain ⟨hiun, oi', hoi', halli⟩ := mem_ready.1 hr
    have hnot : ∀ e ∈ oj.after, Region.binds .any e = true → e.on ≠ i := fun e he hb heq => by
      have h1 := hall e he hb
      rw [heq] at h1
      rcases Nat.lt_or_ge i listed.size with h' | h'
      · simp [h'] at hiun h1; rw [hiun] at h1; cases h1
      · simp [Array.getElem?_eq_none h'] at h1
    have hnot' : ∀ e ∈ oi.after, Region.binds .any e = true → e.on ≠ j := fun e he hb heq => by
      rw [hi] at hoi'
      cases hoi'
      have h1 := halli e he hb
      rw [heq] at h1
      rcases Nat.lt_or_ge j listed.size with h' | h'
      · simp [h'] at hjun h1; rw [hjun] at h1; cases h1
      · simp [Array.getElem?_eq_none h'] at h1
    have wij := waits_false hi hnot'
    have hap := hfree j oj hoj hji hjun hnot
    obtain ⟨p1, p2, p3⟩ := Oper.apart_spec hap
    have hfree' : ∀ k ok, ops[k]? = some ok → k ≠ i → (listed.setIfInBounds j true).getD k true = false →
        (∀ e ∈ ok.after, Region.binds .any e = true → e.on ≠ i) → oi.apart ops ok = true := fun k ok hk hki hun hno => by
      refine hfree k ok hk hki ?_ hno
      by_cases hjk : j = k
      · subst hjk; exact hjun
      · rw [getD_set_ne true hjk] at hun; exact hun
    have next : ∀ (known' : Nat → World → Prop) (u : Value), Vis ops E known' i = Vis ops E known i →
        wpAnyF P ops E Q fuel ((listed.setIfInBounds i true).setIfInBounds j true) known' ((a.put oi.dst v).put oj.dst u) →
        wpAnyF P ops E Q (fuel + 1) (listed.setIfInBounds j true) known' (a.put oj.dst u) := by
      intro known' u hv h
      refine ih (listed.setIfInBounds j true) known' (a.put oj.dst u) hfree' (ready_mono hr (Ne.symm hji)) ?_ ?_ ?_
      · rw [wanted_put oi a oj.dst u p3]; exact hwt
      · rw [hv]; exact hy.same (execOp_put oi (fun cs b => hsel i oi cs b hi) a oj.dst u p3)
      · rw [Array.setIfInBounds_comm _ _ hji, ← Act.put_comm a v u p2]; exact h
    unfold sOp at h1 ⊢
    simp only [hoj] at h1 ⊢
    rw [wanted_put oj a oi.dst v p1] at h1
    split
    · rename_i hwj
      rw [if_pos hwj] at h1
      split
      · rename_i hd
        rw [if_pos hd] at h1
        obtain ⟨u, hu, hn⟩ := h1
        exact ⟨u, hu.same (execOp_put oj (fun cs b => hsel j oj cs b hoj) a oi.dst v p1).symm, next _ u rfl hn⟩
      · rename_i hd
        rw [if_neg hd] at h1
        obtain ⟨ι, val, F, hF, hs, hn⟩ := h1
        exact ⟨ι, val, F, hF, hs.same (execOp_put oj (fun cs b => hsel j oj cs b hoj) a oi.dst v p1).symm, fun x => next _ (val x) (Vis_upd wij) (hn x)⟩
    · rename_i hwj
      rw [if_neg hwj] at h1
      exact next known undef rfl h1

/-- An operation that is passed over may be taken first. -/
theorem wpAnyF_first_skip {i : Nat} {oi : Oper} (hi : ops[i]? = some oi) (hsel : ∀ (j : Nat) (o : Oper) cs b, ops[j]? = some o → o.op ≠ .select cs b) :
    ∀ (fuel : Nat) (listed : Array Bool) (known : Nat → World → Prop) (a : Act),
      (∀ j oj, ops[j]? = some oj → j ≠ i → listed.getD j true = false → (∀ e ∈ oj.after, Region.binds .any e = true → e.on ≠ i) → oi.apart ops oj = true) →
      i ∈ Region.ready .any ops listed → Region.wanted oi (yielded ops a.tmps) = false →
      wpAnyF P ops E Q fuel (listed.setIfInBounds i true) known (a.put oi.dst undef) → wpAnyF P ops E Q (fuel + 1) listed known a := by
  intro fuel
  have own : ∀ {K : (Nat → World → Prop) → Act → Prop} {known : Nat → World → Prop} {a : Act}, Region.wanted oi (yielded ops a.tmps) = false → K known (a.put oi.dst undef) → sOp P ops E i K known a := by
    intro K known a hw h
    unfold sOp
    simp only [hi]
    rw [if_neg (by rw [hw]; exact Bool.false_ne_true)]
    exact h
  induction fuel with
  | zero =>
    intro listed known a _ hr hwt H ⟨w, hw⟩
    refine ⟨fun h => (by rw [h] at hr; cases hr), fun j hj => ?_⟩
    by_cases hji : j = i
    · subst hji; exact own hwt H
    · have h1 := H ⟨w, hw⟩
      have := ready_mono hj hji
      rw [h1.1] at this
      cases this
  | succ fuel ih =>
    intro listed known a hfree hr hwt H ⟨w, hw⟩
    refine ⟨fun h => (by rw [h] at hr; cases hr), fun j hj => ?_⟩
    by_cases hji : j = i
    · subst hji; exact own hwt H
    have h1 := (H ⟨w, hw⟩).2 j (ready_mono hj hji)
    obtain ⟨hjun, oj, hoj, hall⟩ := mem_ready.1 hj
    obtain ⟨hiun, oi', hoi', halli⟩ := mem_ready.1 hr
    have hnot : ∀ e ∈ oj.after, Region.binds .any e = true → e.on ≠ i := fun e he hb heq => by
      have h1 := hall e he hb
      rw [heq] at h1
      rcases Nat.lt_or_ge i listed.size with h' | h'
      · simp [h'] at hiun h1; rw [hiun] at h1; cases h1
      · simp [Array.getElem?_eq_none h'] at h1
    have hap := hfree j oj hoj hji hjun hnot
    obtain ⟨p1, p2, p3⟩ := Oper.apart_spec hap
    have hfree' : ∀ k ok, ops[k]? = some ok → k ≠ i → (listed.setIfInBounds j true).getD k true = false →
        (∀ e ∈ ok.after, Region.binds .any e = true → e.on ≠ i) → oi.apart ops ok = true := fun k ok hk hki hun hno => by
      refine hfree k ok hk hki ?_ hno
      by_cases hjk : j = k
      · subst hjk; exact hjun
      · rw [getD_set_ne true hjk] at hun; exact hun
    have next : ∀ (known' : Nat → World → Prop) (u : Value),
        wpAnyF P ops E Q fuel ((listed.setIfInBounds i true).setIfInBounds j true) known' ((a.put oi.dst undef).put oj.dst u) →
        wpAnyF P ops E Q (fuel + 1) (listed.setIfInBounds j true) known' (a.put oj.dst u) := by
      intro known' u h
      refine ih (listed.setIfInBounds j true) known' (a.put oj.dst u) hfree' (ready_mono hr (Ne.symm hji)) ?_ ?_
      · rw [wanted_put oi a oj.dst u p3]; exact hwt
      · rw [Array.setIfInBounds_comm _ _ hji, ← Act.put_comm a undef u p2]; exact h
    unfold sOp at h1 ⊢
    simp only [hoj] at h1 ⊢
    rw [wanted_put oj a oi.dst undef p1] at h1
    split
    · rename_i hwj
      rw [if_pos hwj] at h1
      split
      · rename_i hd
        rw [if_pos hd] at h1
        obtain ⟨u, hu, hn⟩ := h1
        exact ⟨u, hu.same (execOp_put oj (fun cs b => hsel j oj cs b hoj) a oi.dst undef p1).symm, next _ u hn⟩
      · rename_i hd
        rw [if_neg hd] at h1
        obtain ⟨ι, val, F, hF, hs, hn⟩ := h1
        exact ⟨ι, val, F, hF, hs.same (execOp_put oj (fun cs b => hsel j oj cs b hoj) a oi.dst undef p1).symm, fun x => next _ (val x) (hn x)⟩
    · rename_i hwj
      rw [if_neg hwj] at h1
      exact next known undef h1

/-- Operation k waits for i, through operations that have not come up. -/
inductive Waits (ops : Array Oper) (listed : Array Bool) (i : Nat) : Nat → Prop
  | direct {k : Nat} {o : Oper} {e : Edge} : ops[k]? = some o → e ∈ o.after → Region.binds .any e = true → e.on = i → Waits ops listed i k
  | step {k : Nat} {o : Oper} {e : Edge} : ops[k]? = some o → e ∈ o.after → Region.binds .any e = true → listed.getD e.on true = false → Waits ops listed i e.on → Waits ops listed i k
theorem Waits.not_ready {i k : Nat} {listed : Array Bool} (h : Waits ops listed i k) (hi : listed.getD i true = false) : k ∉ Region.ready .any ops listed := by
  intro hr
  obtain ⟨_, o', ho', hall⟩ := mem_ready.1 hr
  have un : ∀ m, listed.getD m true = false → ¬ listed.getD m false = true := fun m h h' => by
    rcases Nat.lt_or_ge m listed.size with hl | hl
    · simp [hl] at h h'; rw [h] at h'; cases h'
    · simp [Array.getElem?_eq_none hl] at h
  cases h with
  | direct ho he hb heq =>
    rw [ho] at ho'
    cases ho'
    have h1 := hall _ he hb
    rw [heq] at h1
    exact un _ hi (by simpa using h1)
  | step ho he hb hun _ =>
    rw [ho] at ho'
    cases ho'
    have h1 := hall _ he hb
    exact un _ hun (by simpa using h1)
theorem Waits.set {i k j : Nat} {listed : Array Bool} (h : Waits ops listed i k) (hi : listed.getD i true = false) (hj : j ∈ Region.ready .any ops listed) : Waits ops (listed.setIfInBounds j true) i k := by
  induction h with
  | direct ho he hb heq => exact .direct ho he hb heq
  | step ho he hb hun hw ih =>
    rename_i k o e
    have hje : j ≠ e.on := by
      rintro rfl
      exact hw.not_ready hi hj
    exact .step ho he hb (by rw [getD_set_ne true hje]; exact hun) ih
/-- Calls, and what else is soft, wait for one another. -/
def chained (ops : Array Oper) (i : Nat) (listed : Array Bool) : Prop :=
  ∀ j oj, ops[j]? = some oj → oj.isHard = false → j ≠ i → listed.getD j true = false → Waits ops listed i j

theorem chained_set {i j : Nat} {oj : Oper} {listed : Array Bool} (h : chained ops i listed) (hi : listed.getD i true = false) (hr : j ∈ Region.ready .any ops listed) (hj : ops[j]? = some oj) (hh : oj.isHard = true) : chained ops i (listed.setIfInBounds j true) := by
  intro k ok hk hs hki hun
  have hjk : j ≠ k := by rintro rfl; rw [hj] at hk; cases hk; rw [hh] at hs; cases hs
  rw [getD_set_ne true hjk] at hun
  exact (h k ok hk hs hki hun).set hi hr

/-- A soft operation that may come up now may be taken first, if all others wait for it or are hard. -/
theorem wpAnyF_first_soft {i : Nat} {oi : Oper} {ι : Type} {val : ι → Value} {F : ι → World → Prop} (hi : ops[i]? = some oi) (hhi : oi.isHard = false) (hE : Firm E) (hsel : ∀ (j : Nat) (o : Oper) cs b, ops[j]? = some o → o.op ≠ .select cs b) (hF : ∀ x, Firm (F x)) :
    ∀ (fuel : Nat) (listed : Array Bool) (known : Nat → World → Prop) (a : Act), (∀ k, Firm (known k)) →
      (∀ j oj, ops[j]? = some oj → j ≠ i → listed.getD j true = false → (∀ e ∈ oj.after, Region.binds .any e = true → e.on ≠ i) → oi.apart ops oj = true) → chained ops i listed →
      i ∈ Region.ready .any ops listed → Region.wanted oi (yielded ops a.tmps) = true → oi.softAt P a (Vis ops E known i) val F →
      (∀ x, wpAnyF P ops E Q fuel (listed.setIfInBounds i true) (upd known i (F x)) (a.put oi.dst (val x))) → wpAnyF P ops E Q (fuel + 1) listed known a := by
  intro fuel
  have own : ∀ {K : (Nat → World → Prop) → Act → Prop} {known : Nat → World → Prop} {a : Act}, Region.wanted oi (yielded ops a.tmps) = true → oi.softAt P a (Vis ops E known i) val F → (∀ x, K (upd known i (F x)) (a.put oi.dst (val x))) → sOp P ops E i K known a := by
    intro K known a hw hy h
    unfold sOp
    simp only [hi]
    rw [if_pos hw, if_neg (by rw [hhi]; exact Bool.false_ne_true)]
    exact ⟨ι, val, F, hF, hy, h⟩
  have some_x : ∀ {known : Nat → World → Prop} {a : Act} {w : World}, (∀ k, Firm (known k)) → AllOk E known w → oi.softAt P a (Vis ops E known i) val F → ∃ x w', AllOk E (upd known i (F x)) w' := by
    intro known a w hk hw hy
    have h3 := hy w (hw.vis i)
    generalize (execOp a.eval oi).run P w = r at *
    cases r with
    | ok n w' =>
      cases n <;> simp only [Oper.softUpon] at h3
      case value u =>
        obtain ⟨e1, x, _, hx⟩ := h3
        exact ⟨x, w', (hw.ext hE hk e1).upd hx⟩
      case skip =>
        obtain ⟨e1, x, _, hx⟩ := h3
        exact ⟨x, w', (hw.ext hE hk e1).upd hx⟩
      case enter f args =>
        obtain ⟨rfl, hc⟩ := h3
        obtain ⟨e, w'', fr, ⟨he, x, _, hx⟩, _⟩ := hc []
        exact ⟨x, w'', (hw.ext hE hk he).upd hx⟩
    | halt x w' => simp only [Oper.softUpon] at h3
  induction fuel with
  | zero =>
    intro listed known a hk _ _ hr hwt hy H ⟨w, hw⟩
    refine ⟨fun h => (by rw [h] at hr; cases hr), fun j hj => ?_⟩
    by_cases hji : j = i
    · subst hji; exact own hwt hy H
    · obtain ⟨x, w', hx⟩ := some_x hk hw hy
      have h1 := H x ⟨w', hx⟩
      have := ready_mono hj hji
      rw [h1.1] at this
      cases this
  | succ fuel ih =>
    intro listed known a hk hfree hlink hr hwt hy H ⟨w, hw⟩
    refine ⟨fun h => (by rw [h] at hr; cases hr), fun j hj => ?_⟩
    by_cases hji : j = i
    · subst hji; exact own hwt hy H
    obtain ⟨hjun, oj, hoj, hall⟩ := mem_ready.1 hj
    obtain ⟨hiun, oi', hoi', halli⟩ := mem_ready.1 hr
    have unl : ∀ k, listed.getD k true = false → listed[k]? ≠ some true := fun k h h' => by
      rcases Nat.lt_or_ge k listed.size with hl | hl
      · simp [hl] at h h'; rw [h] at h'; cases h'
      · simp [Array.getElem?_eq_none hl] at h'
    have hnot : ∀ e ∈ oj.after, Region.binds .any e = true → e.on ≠ i := fun e he hb heq => by
      have h1 := hall e he hb
      rw [heq] at h1
      rcases Nat.lt_or_ge i listed.size with h' | h'
      · simp [h'] at hiun h1; rw [hiun] at h1; cases h1
      · simp [Array.getElem?_eq_none h'] at h1
    have hhj : oj.isHard = true := by
      by_cases hh : oj.isHard = true
      · exact hh
      · exact absurd hj ((hlink j oj hoj (by simpa using hh) hji hjun).not_ready hiun)
    have hnot' : ∀ e ∈ oi.after, Region.binds .any e = true → e.on ≠ j := fun e he hb heq => by
      rw [hi] at hoi'
      cases hoi'
      have h1 := halli e he hb
      rw [heq] at h1
      rcases Nat.lt_or_ge j listed.size with h' | h'
      · simp [h'] at hjun h1; rw [hjun] at h1; cases h1
      · simp [Array.getElem?_eq_none h'] at h1
    have wji := waits_false hoj hnot
    have wij := waits_false hi hnot'
    have hap := hfree j oj hoj hji hjun hnot
    obtain ⟨p1, p2, p3⟩ := Oper.apart_spec hap
    have hfree' : ∀ k ok, ops[k]? = some ok → k ≠ i → (listed.setIfInBounds j true).getD k true = false →
        (∀ e ∈ ok.after, Region.binds .any e = true → e.on ≠ i) → oi.apart ops ok = true := fun k ok hk hki hun hno => by
      refine hfree k ok hk hki ?_ hno
      by_cases hjk : j = k
      · subst hjk; exact hjun
      · rw [getD_set_ne true hjk] at hun; exact hun
    have next : ∀ (known' : Nat → World → Prop) (u : Value), (∀ k, Firm (known' k)) → Vis ops E known' i = Vis ops E known i →
        (∀ x, wpAnyF P ops E Q fuel ((listed.setIfInBounds i true).setIfInBounds j true) (upd known' i (F x)) ((a.put oi.dst (val x)).put oj.dst u)) →
        wpAnyF P ops E Q (fuel + 1) (listed.setIfInBounds j true) known' (a.put oj.dst u) := by
      intro known' u hk' hv h
      refine ih (listed.setIfInBounds j true) known' (a.put oj.dst u) hk' hfree' (chained_set hlink hiun hj hoj hhj) (ready_mono hr (Ne.symm hji)) ?_ ?_ fun x => ?_
      · rw [wanted_put oi a oj.dst u p3]; exact hwt
      · rw [hv]; exact hy.same (execOp_put oi (fun cs b => hsel i oi cs b hi) a oj.dst u p3)
      · rw [Array.setIfInBounds_comm _ _ hji, ← Act.put_comm a (val x) u p2]; exact h x
    obtain ⟨x0, w0, hx0⟩ := some_x hk hw hy
    have key : ∀ x, (∃ w', AllOk E (upd known i (F x)) w') → sOp P ops E j (wpAnyF P ops E Q fuel ((listed.setIfInBounds i true).setIfInBounds j true)) (upd known i (F x)) (a.put oi.dst (val x)) :=
      fun x hx => (H x hx).2 j (ready_mono hj hji)
    unfold sOp at key ⊢
    simp only [hoj] at key ⊢
    by_cases hwj : Region.wanted oj (yielded ops a.tmps) = true
    · rw [if_pos hwj, if_pos hhj]
      have k0 := key x0 ⟨w0, hx0⟩
      rw [wanted_put oj a oi.dst (val x0) p1, if_pos hwj, if_pos hhj] at k0
      obtain ⟨u, hu, _⟩ := k0
      rw [Vis_upd wji] at hu
      have hu' := hu.same (execOp_put oj (fun cs b => hsel j oj cs b hoj) a oi.dst (val x0) p1).symm
      refine ⟨u, hu', ?_⟩
      refine next _ u hk rfl fun x => ?_
      by_cases hx : ∃ w', AllOk E (upd known i (F x)) w'
      · have kx := key x hx
        rw [wanted_put oj a oi.dst (val x) p1, if_pos hwj, if_pos hhj] at kx
        obtain ⟨u', hv', hn⟩ := kx
        rw [Vis_upd wji] at hv'
        have hv'' := hv'.same (execOp_put oj (fun cs b => hsel j oj cs b hoj) a oi.dst (val x) p1).symm
        have e1 := hu' w (hw.vis j)
        rw [hv'' w (hw.vis j)] at e1
        injection e1 with e1 _
        injection e1 with e1
        subst e1
        exact hn
      · cases fuel with
        | zero => exact fun h' => absurd h' hx
        | succ n => exact fun h' => absurd h' hx
    · rw [if_neg hwj]
      refine next known undef hk rfl fun x => ?_
      by_cases hx : ∃ w', AllOk E (upd known i (F x)) w'
      · have kx := key x hx
        rw [wanted_put oj a oi.dst (val x) p1, if_neg hwj] at kx
        exact kx
      · cases fuel with
        | zero => exact fun h' => absurd h' hx
        | succ n => exact fun h' => absurd h' hx

/-! ### The text's order -/

def reachAll (ops : Array Oper) (i : Nat) (listed : Array Bool) : Nat → Array Bool
  | 0 => #[]
  | n + 1 =>
    let acc := reachAll ops i listed n
    acc.push (match ops[n]? with
      | some o => o.after.any fun e => Region.binds .any e && (Nat.beq e.on i || (!listed.getD e.on true && acc.getD e.on false))
      | none => false)
theorem reachAll_size {i : Nat} {listed : Array Bool} : ∀ n, (reachAll ops i listed n).size = n
  | 0 => rfl
  | n + 1 => by simp [reachAll, reachAll_size n]
theorem reachAll_spec {i : Nat} {listed : Array Bool} : ∀ n k, (reachAll ops i listed n).getD k false = true → Waits ops listed i k
  | 0, k, h => by simp [reachAll] at h
  | n + 1, k, h => by
    have hs := reachAll_size (ops := ops) (i := i) (listed := listed) n
    simp only [reachAll] at h
    by_cases hk : k < n
    · refine reachAll_spec n k ?_
      rw [Array.getD_eq_getD_getElem?, Array.getElem?_push_lt (by omega)] at h
      simpa [hs, hk] using h
    by_cases hk' : k = n
    · subst hk'
      have e : ((reachAll ops i listed k).push (match ops[k]? with
          | some o => o.after.any fun e => Region.binds .any e && (Nat.beq e.on i || (!listed.getD e.on true && (reachAll ops i listed k).getD e.on false))
          | none => false))[k]? = some (match ops[k]? with
          | some o => o.after.any fun e => Region.binds .any e && (Nat.beq e.on i || (!listed.getD e.on true && (reachAll ops i listed k).getD e.on false))
          | none => false) := by
        rw [Array.getElem?_push, if_pos hs.symm]
      rw [Array.getD_eq_getD_getElem?, e, Option.getD_some] at h
      cases ho : ops[k]? with
      | none => rw [ho] at h; cases h
      | some o =>
        rw [ho] at h
        simp only at h
        rw [Array.any_eq_true'] at h
        obtain ⟨e, he, hb⟩ := h
        simp only [Bool.and_eq_true, Bool.or_eq_true] at hb
        obtain ⟨h1, h2⟩ := hb
        rcases h2 with h2 | ⟨h2, h3⟩
        · exact .direct ho he h1 (Nat.eq_of_beq_eq_true h2)
        · exact .step ho he h1 (by simpa using h2) (reachAll_spec k _ h3)
    · rw [Array.getD_eq_getD_getElem?, Array.getElem?_eq_none (by simp; omega)] at h
      cases h
def chainFrom (ops : Array Oper) (i : Nat) (listed : Array Bool) : Bool :=
  let r := reachAll ops i listed ops.size
  (List.range ops.size).all fun j => match ops[j]? with
    | some oj => oj.isHard || Nat.beq j i || listed.getD j true || r.getD j false
    | none => true
theorem chainFrom_spec {i : Nat} {listed : Array Bool} (h : chainFrom ops i listed = true) : chained ops i listed := by
  intro j oj hj hs hji hun
  unfold chainFrom at h
  rw [List.all_eq_true] at h
  have hlt : j < ops.size := by
    rcases Nat.lt_or_ge j ops.size with hl | hl
    · exact hl
    · rw [Array.getElem?_eq_none hl] at hj; cases hj
  have h1 := h j (by simpa using hlt)
  simp only [hj, hs, hun, Bool.false_or, Bool.or_false] at h1
  rw [show Nat.beq j i = false from Bool.eq_false_iff.2 fun e => hji (Nat.eq_of_beq_eq_true e), Bool.false_or] at h1
  exact reachAll_spec _ _ h1
def lexChain (ops : Array Oper) : Nat → Nat → Array Bool → Bool
  | 0, _, _ => true
  | n + 1, k, listed => (match ops[k]? with | some o => o.isHard || chainFrom ops k listed | none => true) && lexChain ops n (k + 1) (listed.setIfInBounds k true)

def wpFree (P : Program) (ops : Array Oper) (E : World → Prop) (Q : (Nat → World → Prop) → Act → Prop) : List Oper → Nat → (Nat → World → Prop) → Act → Prop
  | [], _, known, a => Q known a
  | o :: rest, j, known, a =>
    if Region.wanted o (yielded ops a.tmps) = true then
      if o.isHard = true then ∃ v, o.hardAt P a (Vis ops E known j) v ∧ wpFree P ops E Q rest (j + 1) known (a.put o.dst v)
      else ∃ (ι : Type) (val : ι → Value) (F : ι → World → Prop), (∀ i, Firm (F i)) ∧ o.softAt P a (Vis ops E known j) val F ∧ ∀ i, wpFree P ops E Q rest (j + 1) (upd known j (F i)) (a.put o.dst (val i))
    else wpFree P ops E Q rest (j + 1) known (a.put o.dst undef)

theorem wpAnyF_lex (hs : Region.noSelect ops = true) (hE : Firm E) : ∀ (l : List Oper) (k : Nat) (listed : Array Bool) (known : Nat → World → Prop) (a : Act), (∀ j, l[j]? = ops[k + j]?) →
    Region.lexFrom .any ops l.length k listed = true → lexChain ops l.length k listed = true → (∀ i, Firm (known i)) → wpFree P ops E Q l k known a → wpAnyF P ops E Q l.length listed known a
  | [], _, _, _, _, _, hB, _, _, h => fun _ => ⟨by simpa [Region.lexFrom] using hB, h⟩
  | o :: l, k, listed, known, a, hl, hB, hC, hk, h => by
    have h0 : ops[k]? = some o := by simpa using (hl 0).symm
    simp only [List.length_cons, Region.lexFrom, Bool.and_eq_true] at hB
    obtain ⟨⟨hr, hf⟩, hB'⟩ := hB
    simp only [List.length_cons, lexChain, h0, Bool.and_eq_true] at hC
    obtain ⟨hc, hC'⟩ := hC
    have hl' : ∀ j, l[j]? = ops[k + 1 + j]? := fun j => by have := hl (j + 1); simpa [Nat.add_assoc, Nat.add_comm 1 j] using this
    unfold wpFree at h
    by_cases hw : Region.wanted o (yielded ops a.tmps) = true
    · rw [if_pos hw] at h
      by_cases hd : o.isHard = true
      · rw [if_pos hd] at h
        obtain ⟨v, h1, h2⟩ := h
        exact wpAnyF_first_hard h0 hd (Region.noSelect_spec hs) l.length listed known a (Region.free_spec h0 hf) (by simpa using hr) hw h1 (wpAnyF_lex hs hE l (k + 1) _ known _ hl' hB' hC' hk h2)
      · rw [if_neg hd] at h
        obtain ⟨ι, val, F, h1, h2, h3⟩ := h
        have hd' : o.isHard = false := by simpa using hd
        rw [hd', Bool.false_or] at hc
        exact wpAnyF_first_soft h0 hd' hE (Region.noSelect_spec hs) h1 l.length listed known a hk (Region.free_spec h0 hf) (chainFrom_spec hc) (by simpa using hr) hw h2 fun x => wpAnyF_lex hs hE l (k + 1) _ _ _ hl' hB' hC' (firm_upd hk (h1 x)) (h3 x)
    · rw [if_neg hw] at h
      exact wpAnyF_first_skip h0 (Region.noSelect_spec hs) l.length listed known a (Region.free_spec h0 hf) (by simpa using hr) (by simpa using hw) (wpAnyF_lex hs hE l (k + 1) _ known _ hl' hB' hC' hk h)

/-- The class: what lay in w lies there. -/
def Keeps (w : World) : World → Prop := fun w' => ∃ n, w' = w.over n
theorem keeps_firm (w : World) : Firm (Keeps w) := fun _ w' ⟨n, hn⟩ he => ⟨w', by
  subst hn
  exact (World.over_of ((World.over_below w n).trans (Below.mono he (World.over_below w n).size))).symm⟩
theorem Keeps.below {w w' : World} (h : Keeps w w') : Below w.heap.size w w' := by
  obtain ⟨n, rfl⟩ := h
  exact World.over_below w n

/-- One walk of the text's order serves every order. -/
theorem wp_region_free {id : Nat} {Q : Exit → Act → World → Prop} {a : Act} {w : World} {l : List Oper} (hm : P.follows .mixedOrders = true) (hB : Region.lexB .any l.toArray = true)
    (hC : lexChain l.toArray l.length 0 (Array.replicate l.toArray.size false) = true)
    (h : wpFree P l.toArray (Keeps w) (fun known a' => ∀ w', Below w.heap.size w w' → (∀ i, known i w') → Q .normal a' w') l 0 (fun _ _ => True) a) : (Code.region id l.toArray true).wp P Q a w := by
  simp only [Region.lexB, Bool.and_eq_true] at hB
  refine wp_region_any hm (wpAny_of_free (Q := fun known a' => ∀ w', Below w.heap.size w w' → (∀ i, known i w') → Q .normal a' w') (keeps_firm w) (fun _ _ w' hw' h => h w' hw'.1.below hw'.2) _ _ (fun _ _ => True) _ _ (fun _ _ _ _ _ => trivial)
    ⟨⟨w.drew, (World.over_of ((Below.refl _ _).drew)).symm⟩, fun _ => trivial⟩ ?_)
  have := wpAnyF_lex hB.1 (keeps_firm w) l 0 (Array.replicate l.toArray.size false) (fun _ _ => True) a (fun j => by simp) (by simpa using hB.2) hC (fun _ _ _ _ _ => trivial) h
  simpa using this

section
variable {a : Act} {o : Oper} {rest : List Oper} {j : Nat} {known : Nat → World → Prop} {w : World}
theorem free_nil (h : Q known a) : wpFree P ops E Q [] j known a := h
/-- An operation that only computes, or reads what lay there. -/
theorem free_hard (hw : Region.wanted o (yielded ops a.tmps) = true) (hd : o.isHard = true) (h : ∀ K : Act → Prop, (∀ a', wpFree P ops (Keeps w) Q rest (j + 1) known a' → K a') → o.quiet P a (fun w' => ∃ n, w' = w.over n) K) : wpFree P ops (Keeps w) Q (o :: rest) j known a := by
  unfold wpFree
  rw [if_pos hw, if_pos hd]
  obtain ⟨v, h1, h2⟩ := h _ (fun _ h => h)
  refine ⟨v, fun w' hw' => ?_, h2⟩
  have h3 := h1 w' hw'.1
  unfold Oper.quietAt at h3
  cases hr : (execOp a.eval o).run P w' with
  | ok n w'' =>
    obtain ⟨u, rfl⟩ := Oper.hard_value hd hr
    rw [hr] at h3
    obtain ⟨rfl, rfl⟩ := h3
    rfl
  | halt x w'' => rw [hr] at h3; exact h3.elim
/-- The slot is written as by an assignment: so the frame is written out by the walk's own step. -/
theorem quiet_put {d : Option Tmp} {v : Value} {C : World → Prop} {K : Act → Prop} (h : (Oper.mk d (.move (.const v)) 0 "" #[] none).quiet P a C K) (hC : ∃ w, C w) : K (a.put d v) := by
  obtain ⟨u, h1, h2⟩ := h
  obtain ⟨w, hw⟩ := hC
  have h3 := h1 w hw
  unfold Oper.quietAt at h3
  simp only [execOp, Sem.run_pure, Oper.quietUpon] at h3
  obtain ⟨_, h3⟩ := h3
  subst h3
  exact h2
/-- An operation that is passed over. -/
theorem free_skip {d : Option Tmp} (hdst : o.dst = d) (hw : Region.wanted o (yielded ops a.tmps) = false)
    (h : ∀ K : Act → Prop, (∀ a', wpFree P ops (Keeps w) Q rest (j + 1) known a' → K a') → (Oper.mk d (.move (.const undef)) 0 "" #[] none).quiet P a (fun _ => True) K) : wpFree P ops (Keeps w) Q (o :: rest) j known a := by
  subst hdst
  unfold wpFree
  rw [if_neg (by rw [hw]; exact Bool.false_ne_true)]
  exact quiet_put (h _ fun _ h => h) ⟨w, trivial⟩
/-- What a soft operation leaves. -/
def SoftPost (w : World) {ι : Type} (val : ι → Value) (F : ι → World → Prop) (e : Ending) (w' : World) : Prop := Below w.heap.size w w' ∧ ∃ i, e = .returned (val i) ∧ F i w'
@[go_sem] theorem softUpon_enter {w w' : World} {ι : Type} {val : ι → Value} {F : ι → World → Prop} {f : FuncId} {args : Array Value} :
    Oper.softUpon P w val F (.ok (.enter f args) w') = (w' = w ∧ Calls P f args w (SoftPost w val F)) := rfl
/-- An operation that reads what a call made. -/
theorem free_fact {d : Option Tmp} (v : Value) (hdst : o.dst = d) (hw : Region.wanted o (yielded ops a.tmps) = true) (hd : o.isHard = true) (h1 : ∀ w', Vis ops (Keeps w) known j w' → (execOp a.eval o).run P w' = .ok (.value v) w')
    (h : ∀ K : Act → Prop, (∀ a', wpFree P ops (Keeps w) Q rest (j + 1) known a' → K a') → (Oper.mk d (.move (.const v)) 0 "" #[] none).quiet P a (fun _ => True) K) : wpFree P ops (Keeps w) Q (o :: rest) j known a := by
  subst hdst
  unfold wpFree
  rw [if_pos hw, if_pos hd]
  exact ⟨v, h1, quiet_put (h _ fun _ h => h) ⟨w, trivial⟩⟩
/-- A call that makes memory. -/
theorem free_soft {d : Option Tmp} {ι : Type} (val : ι → Value) (F : ι → World → Prop) (hdst : o.dst = d) (hw : Region.wanted o (yielded ops a.tmps) = true) (hd : o.isHard = false) (hF : ∀ i, Firm (F i))
    (hs : ∀ w', Vis ops (Keeps w) known j w' → Oper.softUpon P w' val F ((execOp a.eval o).run P w'))
    (h : ∀ i, ∀ K : Act → Prop, (∀ a', wpFree P ops (Keeps w) Q rest (j + 1) (upd known j (F i)) a' → K a') → (Oper.mk d (.move (.const (val i))) 0 "" #[] none).quiet P a (fun _ => True) K) : wpFree P ops (Keeps w) Q (o :: rest) j known a := by
  subst hdst
  unfold wpFree
  rw [if_pos hw, if_neg (by rw [hd]; exact Bool.false_ne_true)]
  exact ⟨ι, val, F, hF, hs, fun i => quiet_put (h i _ fun _ h => h) ⟨w, trivial⟩⟩
/-- A call that makes memory, and hands back a plain value. -/
theorem free_value {d : Option Tmp} (v : Value) (hdst : o.dst = d) (hw : Region.wanted o (yielded ops a.tmps) = true) (hd : o.isHard = false)
    (hs : ∀ w', Vis ops (Keeps w) known j w' → Oper.softUpon P w' (fun _ : Unit => v) (fun _ _ => True) ((execOp a.eval o).run P w'))
    (h : ∀ K : Act → Prop, (∀ a', wpFree P ops (Keeps w) Q rest (j + 1) (upd known j fun _ => True) a' → K a') → (Oper.mk d (.move (.const v)) 0 "" #[] none).quiet P a (fun _ => True) K) : wpFree P ops (Keeps w) Q (o :: rest) j known a :=
  free_soft (w := w) (ι := Unit) (fun _ => v) (fun _ _ => True) hdst hw hd (fun _ _ _ _ _ => trivial) hs fun _ => h
theorem Calls.soft_value {f : FuncId} {args : Array Value} {v : Value} {w : World} (h : Calls P f args w fun e w' => e = .returned v ∧ Below w.heap.size w w') : Calls P f args w (SoftPost w (fun _ : Unit => v) (fun _ _ => True)) :=
  h.mono fun _ _ ⟨h1, h2⟩ => ⟨h2, (), h1, trivial⟩
theorem Calls.soft_same {f : FuncId} {args : Array Value} {v : Value} {w : World} (h : Calls P f args w fun e w' => e = .returned v ∧ w = w') : Calls P f args w (SoftPost w (fun _ : Unit => v) (fun _ _ => True)) :=
  h.mono fun _ _ ⟨h1, h2⟩ => ⟨h2 ▸ Below.refl _ _, (), h1, trivial⟩
end
end
end Go
