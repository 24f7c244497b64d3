/- Tokens as lists; rows of the call's own. -/
import Derived.Test.YtmnlghbmioekcaaChecked
import Derived.Test.YtmnlghbmioekcaaRows
import Derived.Test.YtmnlghbmioekcaaShapes
import Derived.Test.YtmnlghbmioekcaaOver
import Derived.Test.YtmnlghbmioekcaaBits
import Derived.Test.YtmnlghbmioekcaaBlk
import Derived.Test.YtmnlghbmioekcaaBytes
import Derived.Test.YtmnlghbmioekcaaFill
import Derived.Test.YtmnlghbmioekcaaSoft
import Derived.WalkSpells
import Derived.WalkLawsBesides
import Derived.Lib.Hide
import Derived.Lib.ItoaNum
import Derived.OneCell
import Derived.LoopTactic
import Derived.Deep.RegionHeldLaw
import Derived.Deep.AppendLies
namespace Go.Proofs.Ytmnlghbmioekcaa
open Go.RowKit

theorem info_parts {t : TypeId} {z : Value} {s b : Nat} (h : (Try.prog.info? t).map (fun i => (i.zero, i.size, i.bytes)) = some (some z, s, b)) : ∃ i, Try.prog.info? t = some i ∧ i.zero = some z ∧ i.size = s ∧ i.bytes = b := by
  cases hi : Try.prog.info? t with
  | none => rw [hi] at h; cases h
  | some i =>
    rw [hi] at h
    simp at h
    exact ⟨i, rfl, h.1, h.2.1, h.2.2⟩
theorem info5 : (Try.prog.info? 5).map (fun i => (i.zero, i.size, i.bytes)) = some (some (.int .u8 0), 1, 1) := by kernel_rfl

theorem own_head {w : World} {base g n c e sz : Nat} {A : Option Addr} {xs : List Value} (h : w.ownsRow base e sz (.slice A n c) n xs) (hb : (Value.slice A n c).ownBlock = some g) : A = some ⟨g, 0, none⟩ := by
  rcases h.2 with ⟨h1, _⟩ | ⟨b, cap, cur, h1, _⟩
  · injection h1 with h1
    subst h1
    cases hb
  · injection h1 with h1
    subst h1
    injection hb with hb
    simp at hb
    rw [hb]
theorem u8_wrap_nat (y : Nat) : IntKind.u8.wrap (y : Int) = ((y % 256 : Nat) : Int) := by rw [IntKind.wrap_u8]; omega
set_option maxHeartbeats 400000 in
theorem clone_any (A : Option Addr) (n c : Nat) (bs : List UInt8) (S : Nat → Prop) (w : World) (hL : Bs w S A n bs) (hn : n ≤ 140737488355328) :
    Calls Try.prog 16 #[.slice A n c] w fun e w' => ∃ A' c', e = .returned (.slice A' n c') ∧ w'.ownsRow w.heap.size 5 1 (.slice A' n c') n (bs.map bv) ∧ Below w.heap.size w w' := by
  obtain ⟨i0, hi, hz0, hz1, hz2⟩ := info_parts info5
  have HL := Lib.hid hL
  clear hL
  have eq := fun (w : World) => Lib.run_eql_slice_nil (P := Try.prog) w 22 5 A n c 0 0 Try.underlying22
  rcases A with _ | a
  · obtain ⟨rfl, rfl⟩ := HL.out.nil_of
    go_enter Try.func16, Try.ntmps16
    go_wp2
    go_ret
    exact ⟨none, 0, rfl, World.ownsRow_nil _ _ _ _, Below.refl _ _⟩
  · go_enter Try.func16, Try.ntmps16
    go_wp2_with (at_builtin; refine wpList_append_list _ rfl (.tmp 5) (.tmp 6) 22 rfl w.heap.size 5 i0 (.int .u8 0) 1 1 Try.underlying22 hi hz0 hz1 hz2 rfl (by decide) (.slice (some ⟨w.heap.size, 0, none⟩) 0 0) 0 [] rfl (World.ownsRow_made w #[] 0 (Nat.le_refl _) (by unfold maxLen; omega) rfl) _ (some a) n c _ rfl (Lst.alloc HL.out _) oneCell_bytes (by unfold maxLen; omega) (by omega) (by simp) ?_)
    intro A3 c3 x3 hown3 hgrow3 hat3
    have HW3 := Lib.hid (((Below.refl w.heap.size w).alloc (Nat.le_refl _) _).grown hgrow3 (by simp) (fun g e => by simp [Value.ownBlock] at e; omega))
    have HO3 := Lib.hid hown3
    clear hown3 hgrow3 hat3
    go_wp2
    go_ret
    exact ⟨A3, c3, by simp, by have := HO3.out; simpa using this, HW3.out⟩

/-- A token: its byte, its length, its distance. -/
abbrev Tok := Nat × Int × Int
def flatT (l : List Tok) : List Value := l.flatMap fun p => [Value.int .u8 (p.1 : Int), Value.int .i64 p.2.1, Value.int .i64 p.2.2]
theorem flatT_cons (p : Tok) (l : List Tok) : flatT (p :: l) = Value.int .u8 (p.1 : Int) :: Value.int .i64 p.2.1 :: Value.int .i64 p.2.2 :: flatT l := rfl
theorem flatT_len (l : List Tok) : (flatT l).length = l.length * 3 := by
  induction l with
  | nil => rfl
  | cons p l ih => rw [flatT_cons]; simp [ih]; omega
theorem flatT_append (a b : List Tok) : flatT (a ++ b) = flatT a ++ flatT b := by simp [flatT]
theorem flatT_get (l : List Tok) (i : Nat) : (flatT l)[i * 3]? = (l[i]?).map (fun p => Value.int .u8 (p.1 : Int)) ∧ (flatT l)[i * 3 + 1]? = (l[i]?).map (fun p => Value.int .i64 p.2.1) ∧ (flatT l)[i * 3 + 2]? = (l[i]?).map (fun p => Value.int .i64 p.2.2) := by
  induction l generalizing i with
  | nil => simp [flatT]
  | cons p l ih =>
    rw [flatT_cons]
    cases i with
    | zero => exact ⟨rfl, rfl, rfl⟩
    | succ i =>
      have h := ih i
      rw [show (i + 1) * 3 = i * 3 + 1 + 1 + 1 by omega, show i * 3 + 1 + 1 + 1 + 2 = i * 3 + 2 + 1 + 1 + 1 by omega, show i * 3 + 1 + 1 + 1 + 1 = (i * 3 + 1) + 1 + 1 + 1 by omega]
      simp only [List.getElem?_cons_succ]
      exact h
theorem flatT_one (l : List Tok) : ∀ u ∈ flatT l, u.oneCell' = true := by
  intro u hu
  obtain ⟨p, _, hp⟩ := List.mem_flatMap.1 hu
  simp at hp
  rcases hp with rfl | rfl | rfl <;> rfl
theorem flatT_set (l : List Tok) (j v : Nat) : (flatT l).set (j * 3) (.int .u8 (v : Int)) = flatT (l.set j (v, (l.getD j (0, 0, 0)).2)) := by
  induction l generalizing j with
  | nil => simp [flatT]
  | cons p l ih =>
    cases j with
    | zero => rfl
    | succ j =>
      rw [flatT_cons, show (j + 1) * 3 = j * 3 + 1 + 1 + 1 by omega]
      simp only [List.set_cons_succ, List.getD_cons_succ]
      rw [ih, flatT_cons]
def Toks (w : World) (S : Nat → Prop) (A : Option Addr) (n : Nat) (l : List Tok) : Prop := Lst w S 3 A n (flatT l)
section
variable {w w' : World} {S : Nat → Prop} {n : Nat} {A : Option Addr} {l : List Tok}
theorem Toks.len (h : Toks w S A n l) : l.length = n := by have := Lst.len h; rw [flatT_len] at this; omega
theorem Toks.below (h : Toks w S A n l) (hb : Below w.heap.size w w') : Toks w' S A n l := Lst.below h hb
theorem Toks.at_ (h : Toks w S A n l) {i : Nat} (hi : i < n) : ∃ b off, A = some ⟨b, off, none⟩ ∧ w.cell? ⟨b, off + i * 3, none⟩ = some (.int .u8 ((l.getD i (0, 0, 0)).1 : Int)) ∧ w.cell? ⟨b, off + i * 3 + 1, none⟩ = some (.int .i64 (l.getD i (0, 0, 0)).2.1) ∧
    w.cell? ⟨b, off + i * 3 + 2, none⟩ = some (.int .i64 (l.getD i (0, 0, 0)).2.2) := by
  obtain ⟨b, off, e, hl, hb, hc⟩ := h.2 (by omega)
  have hn := h.len
  have hg := flatT_get l i
  have hli : l[i]? = some (l.getD i (0, 0, 0)) := by rw [List.getD_eq_getElem?_getD, List.getElem?_eq_getElem (by omega)]; rfl
  rw [hli] at hg
  exact ⟨b, off, e, hc _ _ hg.1, by rw [Nat.add_assoc]; exact hc _ _ hg.2.1, by rw [Nat.add_assoc]; exact hc _ _ hg.2.2⟩
end
theorem info31 : (Try.prog.info? 31).map (fun i => (i.zero, i.size, i.bytes)) = some (some (.agg #[.int .u8 0, .int .i64 0, .int .i64 0]), 3, 24) := by kernel_rfl
theorem made_toks (n : Nat) : (madeCells (Value.agg #[.int .u8 0, .int .i64 0, .int .i64 0]).cells (n * 3)).toList = flatT (List.replicate n (0, 0, 0)) := by
  rw [show (Value.agg #[.int .u8 0, .int .i64 0, .int .i64 0]).cells = #[.int .u8 0, .int .i64 0, .int .i64 0] from rfl]
  apply List.ext_getElem?
  intro i
  have h1 : (madeCells #[Value.int .u8 0, .int .i64 0, .int .i64 0] (n * 3)).toList[i]? = if i < n * 3 then some ((#[Value.int .u8 0, .int .i64 0, .int .i64 0] : Array Value)[i % 3]!) else none := by
    unfold madeCells
    simp only [Array.toList_map, Array.toList_range, List.getElem?_map]
    by_cases hi : i < n * 3
    · rw [if_pos hi, List.getElem?_range hi]
      rfl
    · rw [if_neg hi, List.getElem?_eq_none (by simp; omega)]
      rfl
  rw [h1]
  obtain ⟨g0, g1, g2⟩ := flatT_get (List.replicate n (0, 0, 0)) (i / 3)
  rw [List.getElem?_replicate] at g0 g1 g2
  by_cases hi : i < n * 3
  · rw [if_pos hi]
    rw [if_pos (by omega)] at g0 g1 g2
    have h3 : i % 3 = 0 ∨ i % 3 = 1 ∨ i % 3 = 2 := by omega
    rcases h3 with h | h | h
    · rw [h]
      rw [show i / 3 * 3 = i by omega] at g0
      exact g0.symm
    · rw [h]
      rw [show i / 3 * 3 + 1 = i by omega] at g1
      exact g1.symm
    · rw [h]
      rw [show i / 3 * 3 + 2 = i by omega] at g2
      exact g2.symm
  · rw [if_neg hi, List.getElem?_eq_none (by rw [flatT_len, List.length_replicate]; omega)]
end Go.Proofs.Ytmnlghbmioekcaa
