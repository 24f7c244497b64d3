/- The window: New, Put, Len, All. -/
import Derived.Test.YtphphejabgjnjaaChecked
import Derived.Test.YtphphejabgjnjaaRows
import Derived.Test.YtphphejabgjnjaaOver
import Derived.Test.YtphphejabgjnjaaList
import Derived.Test.YtphphejabgjnjaaBits
import Derived.Test.YtphphejabgjnjaaBlk
import Derived.Test.YtphphejabgjnjaaFill
import Derived.Test.YtphphejabgjnjaaSoft
import Derived.Test.YtphphejabgjnjaaBytes
import Derived.Test.YtphphejabgjnjaaShapes
import Derived.WalkSpells
import Derived.WalkLawsBesides
import Derived.Lib.Hide
import Derived.LoopTactic
import Derived.OwnWalk
import Derived.Deep.QuietTactic
import Derived.BigQuiet
import Derived.Deep.RegionLaw
import Derived.StillTailTactics
namespace Go.Proofs.Ytphphejabgjnjaa
open Go.RowKit

def zAll : Option Value → Option (Option Value × Nat)
  | some (.agg cs) => some (cs[32768]?, cs.size)
  | _ => none
set_option maxRecDepth 1000000 in
theorem zero42 : ((Try.prog.info? 42).bind (fun i => zAll i.zero)) = some (some (.int .i64 0), 32769) := by kernel_rfl
theorem zero_agg : ∃ i Z, Try.prog.info? 42 = some i ∧ i.zero = some (.agg Z) ∧ Z[32768]? = some (.int .i64 0) ∧ Z.size = 32769 := by
  have h := zero42
  cases hi : Try.prog.info? 42 with
  | none => rw [hi] at h; cases h
  | some i =>
    rw [hi] at h
    simp only [Option.bind_some] at h
    cases hz : i.zero with
    | none => rw [hz] at h; cases h
    | some v =>
      rw [hz] at h
      unfold zAll at h
      split at h
      · rename_i cs heq
        injection heq with heq
        subst heq
        injection h with h
        injection h with h1 h2
        exact ⟨i, cs, rfl, hz, h1, h2⟩
      · cases h
/-- The window at block g: all bytes that were put. -/
def Ring (cs : Array Value) (all : List UInt8) (n : Nat) : Prop := ∀ d, 1 ≤ d → d ≤ n → d ≤ 32768 → cs[(n - d) % 32768]? = some (bv (all.getD (n - d) 0))
def Wnd (w : World) (g : Nat) (all : List UInt8) : Prop := ∃ cs : Array Value, Whole w g 42 cs ∧ cs.size = 32769 ∧ cs[32768]? = some (.int .i64 (all.length : Nat)) ∧ Ring cs all all.length
theorem getD_append_left (a b : List UInt8) (i : Nat) (h : i < a.length) : (a ++ b).getD i 0 = a.getD i 0 := by
  rw [List.getD_eq_getElem?_getD, List.getElem?_append_left h, List.getD_eq_getElem?_getD]
theorem getD_append_last (a : List UInt8) (c : UInt8) : (a ++ [c]).getD a.length 0 = c := by
  rw [List.getD_eq_getElem?_getD, List.getElem?_append_right (Nat.le_refl _)]
  simp
theorem ring_put (cs : Array Value) (all : List UInt8) (c : UInt8) (hs : cs.size = 32769) (h : Ring cs all all.length) : Ring ((cs.setIfInBounds (all.length % 32768) (bv c)).setIfInBounds 32768 (.int .i64 ((all.length + 1 : Nat) : Int))) (all ++ [c]) (all.length + 1) := by
  intro d h1 h2 h3
  have hm : (all.length + 1 - d) % 32768 < 32768 := Nat.mod_lt _ (by omega)
  rw [Array.getElem?_setIfInBounds_ne (by omega)]
  by_cases e : d = 1
  · subst e
    rw [Nat.add_sub_cancel, Array.getElem?_setIfInBounds_self_of_lt (by omega), getD_append_last]
  · have hne : all.length % 32768 ≠ (all.length + 1 - d) % 32768 := by omega
    rw [Array.getElem?_setIfInBounds_ne hne, getD_append_left _ _ _ (by omega)]
    have := h (d - 1) (by omega) (by omega) (by omega)
    rw [show all.length - (d - 1) = all.length + 1 - d by omega] at this
    exact this
theorem Wnd.below {w w' : World} {g : Nat} {all : List UInt8} (h : Wnd w g all) (hb : Below w.heap.size w w') : Wnd w' g all := by
  obtain ⟨cs, h1, h2⟩ := h
  exact ⟨cs, h1.below' hb, h2⟩
theorem Wnd.lt {w : World} {g : Nat} {all : List UInt8} (h : Wnd w g all) : g < w.heap.size := by
  obtain ⟨cs, h1, h2⟩ := h
  exact h1.lt
theorem Wnd.other {w : World} {g : Nat} {all : List UInt8} (h : Wnd w g all) {p : Addr} (hp : g ≠ p.block) (u : Value) : Wnd (w.setCell p u) g all := by
  obtain ⟨cs, h1, h2⟩ := h
  exact ⟨cs, h1.other hp u, h2⟩
theorem Wnd.drewN {w : World} {g : Nat} {all : List UInt8} (h : Wnd w g all) (k : Nat) : Wnd (w.drewN k) g all := h
theorem Wnd.grown {w w' : World} {g : Nat} {all : List UInt8} {row : Option Nat} (h : Wnd w g all) (hg : w.grownBy w' row) (hne : some g ≠ row) : Wnd w' g all := by
  obtain ⟨cs, h1, h2⟩ := h
  exact ⟨cs, h1.grown hg hne, h2⟩
theorem Wnd.at_ {w : World} {g : Nat} {all : List UInt8} (h : Wnd w g all) : w.cell? ⟨g, 32768, none⟩ = some (.int .i64 (all.length : Nat)) ∧ (∀ i, w.frozen? ⟨g, i, none⟩ = false) ∧ ∃ u, w.cell? ⟨g, all.length % 32768, none⟩ = some u := by
  obtain ⟨cs, h1, h2, h3, h4⟩ := h
  refine ⟨(h1.cell _).trans h3, h1.free, ?_⟩
  have hm : all.length % 32768 < cs.size := by have := Nat.mod_lt all.length (show 0 < 32768 by omega); omega
  exact ⟨cs[all.length % 32768], (h1.cell _).trans (Array.getElem?_eq_getElem hm)⟩
theorem Wnd.back {w : World} {g : Nat} {all : List UInt8} (h : Wnd w g all) {d : Nat} (h1 : 1 ≤ d) (h2 : d ≤ all.length) (h3 : d ≤ 32768) : w.cell? ⟨g, (all.length - d) % 32768, none⟩ = some (bv (all.getD (all.length - d) 0)) := by
  obtain ⟨cs, q1, q2, q3, q4⟩ := h
  exact (q1.cell _).trans (q4 d h1 h2 h3)
theorem Wnd.put {w : World} {g : Nat} {all : List UInt8} (h : Wnd w g all) (c : UInt8) : Wnd ((w.setCell ⟨g, all.length % 32768, none⟩ (bv c)).setCell ⟨g, 32768, none⟩ (.int .i64 ((all.length + 1 : Nat) : Int))) g (all ++ [c]) := by
  obtain ⟨cs, q1, q2, q3, q4⟩ := h
  refine ⟨_, (q1.put _ _ rfl).put _ _ rfl, by simpa using q2, ?_, ?_⟩
  · rw [Array.getElem?_setIfInBounds_self_of_lt (by simp; omega)]
    simp
  · have := ring_put cs all c q2 q4
    simpa using this
/-- What a call on the window may turn: its block, and new ones. -/
theorem new_any (w : World) : Calls Try.prog 7 #[] w fun e w' => ∃ g, e = .returned (.pointer (some ⟨g, 0, none⟩)) ∧ Wnd w' g [] ∧ w.heap.size ≤ g ∧ Below w.heap.size w w' := by
  obtain ⟨i, Z, hi, hz, h1, h2⟩ := zero_agg
  have hzv : ∀ w, (zeroValue 42).run Try.prog w = .ok (.agg Z) w := fun w => by
    unfold zeroValue
    simp [typeInfo, hi, hz, go_sem]
  have H1 := Lib.hid h1
  have H2 := Lib.hid h2
  clear h1 h2 hi hz
  go_enter Try.func7, Try.ntmps7
  go_wp2
  go_ret
  refine ⟨w.heap.size, rfl, ⟨Z, Whole.new _ _ _ rfl, H2.out, H1.out, fun d h1 h2 => by simp at h2; omega⟩, Nat.le_refl _, (Below.refl _ _).alloc (Nat.le_refl _) _⟩
end Go.Proofs.Ytphphejabgjnjaa
