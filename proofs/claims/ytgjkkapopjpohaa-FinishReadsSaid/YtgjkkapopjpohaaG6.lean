/- Numbers behind one another, read; a reader and a tail. -/
import Derived.Test.YtgjkkapopjpohaaG5
namespace Go.Proofs.Ytgjkkapopjpohaa
open Go.RowKit

def cat (l : List (Nat × Nat)) : List UInt8 := l.flatMap fun q => leB q.1 q.2
def csz (l : List (Nat × Nat)) : Nat := (l.map (·.2)).sum
theorem cat_len (l : List (Nat × Nat)) : (cat l).length = csz l := by
  induction l with
  | nil => rfl
  | cons q l ih => show (leB q.1 q.2 ++ cat l).length = _; rw [List.length_append, leB_len, ih]; rfl
theorem num_cat (l1 l2 : List (Nat × Nat)) (v k : Nat) (h : v < 256 ^ k) : num (((cat (l1 ++ (v, k) :: l2)).drop (csz l1)).take k) = v := by
  have e : cat (l1 ++ (v, k) :: l2) = cat l1 ++ (leB v k ++ cat l2) := by unfold cat; simp
  rw [e, ← cat_len l1, List.drop_left, List.take_left' (leB_len v k), num_leB]
  exact Nat.mod_eq_of_lt h
def cT (n s a : Nat) : List (Nat × Nat) := [(101010256, 4), (0, 4), (n, 2), (n, 2), (s, 4), (a, 4), (0, 2)]
def cW (n s a : Nat) : List (Nat × Nat) := [(101075792, 4), (44, 8), (813, 2), (45, 2), (0, 8), (n, 8), (n, 8), (s, 8), (a, 8), (117853008, 4), (0, 4), (a + s, 8), (1, 4)]
theorem zero22 : leB 0 2 ++ leB 0 2 = leB 0 4 := by decide
theorem zero44 : leB 0 4 ++ leB 0 4 = leB 0 8 := by decide
theorem encT_cat (n s a : Nat) : encT n s a = cat (cT n s a) := by
  unfold encT cT cat fl
  simp only [List.flatMap_cons, List.flatMap_nil, List.append_nil, List.append_assoc]
  rw [← zero22]
  simp only [List.append_assoc]
theorem encW_cat (n s a : Nat) : encW n s a = cat (cW n s a) := by
  unfold encW cW cat fl
  simp only [List.flatMap_cons, List.flatMap_nil, List.append_nil, List.append_assoc]
  rw [← zero44]
  simp only [List.append_assoc]
/-- A reader at block g, a tail at block T. -/
def RS (w : World) (g T : Nat) (A : Option Addr) (n c : Nat) (bs : List UInt8) (p : Nat) (t : Array Value) : Prop :=
  Whole w g 71 #[.slice A n c, .int .i64 p] ∧ Bs w (fun b => b ≠ g ∧ b ≠ T) A n bs ∧ Whole w T 23 t ∧ g ≠ T
section
variable {w w' : World} {g T n c p q : Nat} {A : Option Addr} {bs : List UInt8} {t : Array Value}
theorem RS.rdr (h : RS w g T A n c bs p t) : Rdr w g A n c bs p := ⟨h.1, h.2.1.mono fun b hb => hb.1⟩
theorem RS.moved (h : RS w g T A n c bs p t) (k : Moved w g A n c q w') : RS w' g T A n c bs q t := ⟨k.2, h.2.1.keep k.1.size fun b hb hS => k.1.2.2.2.2 b hb hS.1, k.1.whole h.2.2.1 (fun e => h.2.2.2 e.symm), h.2.2.2⟩
theorem RS.below (h : RS w g T A n c bs p t) (k : Below w.heap.size w w') : RS w' g T A n c bs p t := ⟨h.1.below' k, h.2.1.below k, h.2.2.1.below' k, h.2.2.2⟩
theorem RS.store (h : RS w g T A n c bs p t) (i : Nat) (u : Value) {t' : Array Value} (e : t.setIfInBounds i u = t') : RS (w.setCell ⟨T, i, none⟩ u) g T A n c bs p t' :=
  ⟨h.1.other (by show g ≠ T; exact h.2.2.2) _, h.2.1.put _ (fun b hb => hb.2), h.2.2.1.put i u e, h.2.2.2⟩
theorem Rdr.tail (h : Rdr w g A n c bs p) (t : Array Value) : RS (w.alloc (.cells t 23)) g w.heap.size A n c bs p t :=
  ⟨h.1.alloc _, (Bs.alloc h.2.and_lt _).mono (fun b hb => ⟨hb.1, by omega⟩), Whole.new w 23 t rfl, by have := h.1.lt; omega⟩
end
def Went (w : World) (g : Nat) (A : Option Addr) (n c q : Nat) (v : Value) (e : Ending) (w' : World) : Prop := e = .returned v ∧ Moved w g A n c q w'
theorem want_true (g : Nat) (A : Option Addr) (n c : Nat) (bs : List UInt8) (p k : Nat) (V : Nat) (E : Int) (w : World) (h : Rdr w g A n c bs p) (hp : p + k ≤ n) (hnc : n ≤ c) (hn : n ≤ 1000) (hc : c ≤ 9223372036854775807) (h1 : 1 ≤ k) (h8 : k ≤ 8) (hv : num ((bs.drop p).take k) = V) :
    Calls Try.prog 31 #[.pointer (some ⟨g, 0, none⟩), .int .i64 (k : Nat), .int .u64 (V : Nat), .int .i64 E] w (Went w g A n c (p + k) (.tuple #[])) := by
  have hi := int_ok g A n c bs p k w h hp hnc (by omega) hc h1 h8
  rw [hv] at hi
  refine (want_ok g A n c (p + k) V (V : Int) E k true w (by simp) hi).mono ?_
  rintro e w' ⟨rfl, hM⟩
  exact ⟨rfl, hM⟩
theorem want_false (g : Nat) (A : Option Addr) (n c : Nat) (bs : List UInt8) (p k : Nat) (V : Nat) (E : Int) (w : World) (h : Rdr w g A n c bs p) (hp : p + k ≤ n) (hnc : n ≤ c) (hn : n ≤ 1000) (hc : c ≤ 9223372036854775807) (h1 : 1 ≤ k) (h8 : k ≤ 8) (hv : num ((bs.drop p).take k) ≠ V) :
    Calls Try.prog 31 #[.pointer (some ⟨g, 0, none⟩), .int .i64 (k : Nat), .int .u64 (V : Nat), .int .i64 E] w (fun e w' => e = .panicked [{ v := fault E, recovered := false }] ∧ Moved w g A n c (p + k) w') := by
  have hi := int_ok g A n c bs p k w h hp hnc (by omega) hc h1 h8
  refine (want_ok g A n c (p + k) _ (V : Int) E k false w (by simp; omega) hi).mono ?_
  rintro e w' ⟨rfl, hM⟩
  exact ⟨rfl, hM⟩
theorem int_get (g : Nat) (A : Option Addr) (n c : Nat) (bs : List UInt8) (p k : Nat) (V : Nat) (w : World) (h : Rdr w g A n c bs p) (hp : p + k ≤ n) (hnc : n ≤ c) (hn : n ≤ 1000) (hc : c ≤ 9223372036854775807) (h1 : 1 ≤ k) (h8 : k ≤ 8) (hv : num ((bs.drop p).take k) = V) :
    Calls Try.prog 32 #[.pointer (some ⟨g, 0, none⟩), .int .i64 (k : Nat)] w (Went w g A n c (p + k) (.int .u64 (V : Nat))) := by
  have hi := int_ok g A n c bs p k w h hp hnc (by omega) hc h1 h8
  rw [hv] at hi
  exact hi
theorem must_ok (x y z : Int) (b : Bool) (w : World) : Calls Try.prog 34 #[tl x y z b, .int .i64 0] w fun e w' => e = .returned (tl x y z b) ∧ Below w.heap.size w w' := by
  go_enter Try.func34, Try.ntmps34
  go_wp2_with fail
  refine (check_true 0 _).mono ?_
  rintro e wx ⟨rfl, rfl⟩
  go_wp2
  simp [bodyPost, results, Try.results34, go_sem]
  exact ((Below.refl _ _).alloc (Nat.le_refl _) _).alloc (by simp) _
end Go.Proofs.Ytgjkkapopjpohaa
