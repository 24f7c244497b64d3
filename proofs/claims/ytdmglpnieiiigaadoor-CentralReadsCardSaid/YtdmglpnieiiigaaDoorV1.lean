/- What reading a header takes. -/
import Derived.Test.YtdmglpnieiiigaaDoorG4
import Derived.Test.YtdmglpnieiiigaaDoorK6
namespace Go.Proofs.YtdmglpnieiiigaaDoor
open Go.RowKit

theorem bytes_short (g : Nat) (A : Option Addr) (n c : Nat) (bs : List UInt8) (p k : Nat) (w : World) (h : Rdr w g A n c bs p) (hp : p ≤ n) (hk : n < p + k) (hn : n ≤ 140737488355328) (hkk : k ≤ 9223372036854775807) :
    Calls Tryd.prog 41 #[.pointer (some ⟨g, 0, none⟩), .int .i64 k] w (Threw w 4) := by
  have HT := Lib.hid (take_short g A n c bs p k w h hp hk hn hkk)
  clear h
  go_enter Tryd.func41, Tryd.ntmps41
  go_wp2_with fail
  refine (check_true 1 w).mono ?_
  rintro e w2 ⟨rfl, rfl⟩
  go_wp2_with fail
  refine HT.out.mono ?_
  rintro e w2 ⟨rfl, hb⟩
  have HB := Lib.hid hb
  clear hb
  go_wp2
  simp [bodyPost, fault]
  exact ⟨rfl, HB.out⟩
def NewP (w : World) (g : Nat) (A : Option Addr) (n c q k : Nat) (xs : List UInt8) (e : Ending) (w' : World) : Prop :=
  ∃ A2 c2, e = .returned (.slice A2 k c2) ∧ Bs w' (fun b => w.heap.size ≤ b) A2 k xs ∧ Moved w g A n c q w'
theorem bytes_ok (g : Nat) (A : Option Addr) (n c : Nat) (bs : List UInt8) (p k : Nat) (w : World) (h : Rdr w g A n c bs p) (hp : p + k ≤ n) (hnc : n ≤ c) (hn : n ≤ 140737488355328) (hc : c ≤ 9223372036854775807) :
    Calls Tryd.prog 41 #[.pointer (some ⟨g, 0, none⟩), .int .i64 k] w (NewP w g A n c (p + k) k ((bs.drop p).take k)) := by
  have HT := Lib.hid (take_ok g A n c bs p k w h hp hnc hn hc)
  clear h
  go_enter Tryd.func41, Tryd.ntmps41
  go_wp2_with fail
  refine (check_true 1 w).mono ?_
  rintro e w2 ⟨rfl, rfl⟩
  go_wp2_with fail
  refine HT.out.mono ?_
  rintro e w2 ⟨A2, c2, rfl, hB, hM⟩
  have HC := Lib.hid (clone_any A2 k c2 _ _ w2 hB (by omega))
  have HM := Lib.hid hM
  clear hB hM HT
  go_wp2_with fail
  refine HC.out.mono ?_
  rintro e w3 ⟨A3, c3, rfl, ho, hb⟩
  have HB3 := Lib.hid ((Bs.of_own ho).mono fun b (hb : w2.heap.size ≤ b) => Nat.le_trans HM.out.1.size hb)
  have HM3 := Lib.hid (HM.out.then hb)
  clear ho hb HC HM
  go_wp2
  go_ret
  exact ⟨A3, c3, rfl, HB3.out, HM3.out⟩
theorem alone_new {w w' : World} {g : Nat} (h : Alone w w' g) {p : Addr} (hp : w.heap.size ≤ p.block) (u : Value) : Alone w (w'.setCell p u) g :=
  ⟨h.1, h.2.1, h.2.2.1, by simpa using h.size, fun k hk hg => (Below.heap_setCell w' p u k (by omega)).trans (h.2.2.2.2 k hk hg)⟩
theorem take_drop_take (l : List UInt8) (n o k : Nat) (h : o + k ≤ n) : ((l.take n).drop o).take k = (l.drop o).take k := by
  rw [List.drop_take, List.take_take, Nat.min_eq_left (by omega)]
/-- A reader at block g, a tail at block T. -/
def RS (w : World) (g T : Nat) (A : Option Addr) (n c : Nat) (bs : List UInt8) (p : Nat) (t : Array Value) : Prop :=
  Whole w g 70 #[.slice A n c, .int .i64 p] ∧ Bs w (fun b => b ≠ g ∧ b ≠ T) A n bs ∧ Whole w T 28 t ∧ g ≠ T
section
variable {w w' : World} {g T n c p q : Nat} {A : Option Addr} {bs : List UInt8} {t : Array Value}
theorem RS.rdr (h : RS w g T A n c bs p t) : Rdr w g A n c bs p := ⟨h.1, h.2.1.mono fun _b hb => hb.1⟩
theorem RS.moved (h : RS w g T A n c bs p t) (k : Moved w g A n c q w') : RS w' g T A n c bs q t := ⟨k.2, h.2.1.keep k.1.size fun b hb hS => k.1.2.2.2.2 b hb hS.1, k.1.whole h.2.2.1 (fun e => h.2.2.2 e.symm), h.2.2.2⟩
theorem RS.below (h : RS w g T A n c bs p t) (k : Below w.heap.size w w') : RS w' g T A n c bs p t := ⟨h.1.below' k, h.2.1.below k, h.2.2.1.below' k, h.2.2.2⟩
theorem RS.store (h : RS w g T A n c bs p t) (i : Nat) (u : Value) {t' : Array Value} (e : t.setIfInBounds i u = t') : RS (w.setCell ⟨T, i, none⟩ u) g T A n c bs p t' :=
  ⟨h.1.other (by show g ≠ T; exact h.2.2.2) _, h.2.1.put _ (fun b hb => hb.2), h.2.2.1.put i u e, h.2.2.2⟩
theorem Rdr.tail (h : Rdr w g A n c bs p) (t : Array Value) : RS (w.alloc (.cells t 28)) g w.heap.size A n c bs p t :=
  ⟨h.1.alloc _, (Bs.alloc h.2.and_lt _).mono (fun b hb => ⟨hb.1, by omega⟩), Whole.new w 28 t rfl, by have := h.1.lt; omega⟩
end
def Went (w : World) (g : Nat) (A : Option Addr) (n c q : Nat) (v : Value) (e : Ending) (w' : World) : Prop := e = .returned v ∧ Moved w g A n c q w'
theorem want_true (g : Nat) (A : Option Addr) (n c : Nat) (bs : List UInt8) (p k : Nat) (V : Nat) (E : Int) (w : World) (h : Rdr w g A n c bs p) (hp : p + k ≤ n) (hnc : n ≤ c) (hn : n ≤ 1000) (hc : c ≤ 9223372036854775807) (h1 : 1 ≤ k) (h8 : k ≤ 8) (hv : num ((bs.drop p).take k) = V) :
    Calls Tryd.prog 36 #[.pointer (some ⟨g, 0, none⟩), .int .i64 (k : Nat), .int .u64 (V : Nat), .int .i64 E] w (Went w g A n c (p + k) (.tuple #[])) := by
  have hi := int_ok g A n c bs p k w h hp hnc (by omega) hc h1 h8
  rw [hv] at hi
  refine (want_ok g A n c (p + k) V (V : Int) E k true w (by simp) hi).mono ?_
  rintro e w' ⟨rfl, hM⟩
  exact ⟨rfl, hM⟩
theorem want_false (g : Nat) (A : Option Addr) (n c : Nat) (bs : List UInt8) (p k : Nat) (V : Nat) (E : Int) (w : World) (h : Rdr w g A n c bs p) (hp : p + k ≤ n) (hnc : n ≤ c) (hn : n ≤ 1000) (hc : c ≤ 9223372036854775807) (h1 : 1 ≤ k) (h8 : k ≤ 8) (hv : num ((bs.drop p).take k) ≠ V) :
    Calls Tryd.prog 36 #[.pointer (some ⟨g, 0, none⟩), .int .i64 (k : Nat), .int .u64 (V : Nat), .int .i64 E] w (fun e w' => e = .panicked [{ v := fault E, recovered := false }] ∧ Moved w g A n c (p + k) w') := by
  have hi := int_ok g A n c bs p k w h hp hnc (by omega) hc h1 h8
  refine (want_ok g A n c (p + k) _ (V : Int) E k false w (by simp; omega) hi).mono ?_
  rintro e w' ⟨rfl, hM⟩
  exact ⟨rfl, hM⟩
theorem int_get (g : Nat) (A : Option Addr) (n c : Nat) (bs : List UInt8) (p k : Nat) (V : Nat) (w : World) (h : Rdr w g A n c bs p) (hp : p + k ≤ n) (hnc : n ≤ c) (hn : n ≤ 1000) (hc : c ≤ 9223372036854775807) (h1 : 1 ≤ k) (h8 : k ≤ 8) (hv : num ((bs.drop p).take k) = V) :
    Calls Tryd.prog 37 #[.pointer (some ⟨g, 0, none⟩), .int .i64 (k : Nat)] w (Went w g A n c (p + k) (.int .u64 (V : Nat))) := by
  have hi := int_ok g A n c bs p k w h hp hnc (by omega) hc h1 h8
  rw [hv] at hi
  exact hi
def bad : List (Bool × Int) → Int
  | [] => 0
  | (b, c) :: l => if b = true then bad l else c
theorem w64 (n : Int) : wrap64 n = IntKind.i64.wrap n := by rw [IntKind.wrap_i64]; unfold wrap64; rfl
theorem num_bd (E : List UInt8) (p k n : Nat) (h : 256 ^ k = n) : num ((E.drop p).take k) < n := by
  have h1 := num_lt ((E.drop p).take k)
  have h2 : ((E.drop p).take k).length ≤ k := by rw [List.length_take]; omega
  have h3 := Nat.pow_le_pow_right (show 0 < 256 by omega) h2
  omega
set_option maxRecDepth 100000 in
set_option maxHeartbeats 4000000 in
theorem must_time (y mo d h mi se : Int) (w : World) : Calls Tryd.prog 39 #[tm y mo d h mi se, .int .i64 0] w fun e w' => e = .returned (tm y mo d h mi se) ∧ Below w.heap.size w w' := by
  have HB0 := Lib.hid (((Below.refl w.heap.size w).alloc (Nat.le_refl _) (.cells #[.int .i64 y, .int .i64 mo, .int .i64 d, .int .i64 h, .int .i64 mi, .int .i64 se] 23)).alloc (by simp) (.cells #[.int .i64 y, .int .i64 mo, .int .i64 d, .int .i64 h, .int .i64 mi, .int .i64 se] 23))
  have HM := Lib.hid (Whole.new (w.alloc (.cells #[.int .i64 y, .int .i64 mo, .int .i64 d, .int .i64 h, .int .i64 mi, .int .i64 se] 23)) 23 #[.int .i64 y, .int .i64 mo, .int .i64 d, .int .i64 h, .int .i64 mi, .int .i64 se] (b := w.heap.size + 1) (by simp))
  have h0 := HM.out.cell 0
  have h1 := HM.out.cell 1
  have h2 := HM.out.cell 2
  have h3 := HM.out.cell 3
  have h4 := HM.out.cell 4
  have h5 := HM.out.cell 5
  simp at h0 h1 h2 h3 h4 h5
  go_enter Tryd.func39, Tryd.ntmps39
  go_wp2_with fail
  refine (check_true 0 _).mono ?_
  rintro e wx ⟨rfl, rfl⟩
  go_wp2
  simp [bodyPost, results, Tryd.results39, go_sem]
  exact HB0.out
set_option maxRecDepth 100000 in
set_option maxHeartbeats 4000000 in
theorem must_time_bad (y mo d h mi se k : Int) (w : World) (hk : (k == 0) = false) : Calls Tryd.prog 39 #[tm y mo d h mi se, .int .i64 k] w (Threw w k) := by
  have HB0 := Lib.hid (((Below.refl w.heap.size w).alloc (Nat.le_refl _) (.cells #[.int .i64 y, .int .i64 mo, .int .i64 d, .int .i64 h, .int .i64 mi, .int .i64 se] 23)).alloc (by simp) (.cells #[.int .i64 0, .int .i64 0, .int .i64 0, .int .i64 0, .int .i64 0, .int .i64 0] 23))
  go_enter Tryd.func39, Tryd.ntmps39
  go_wp2_with fail
  refine (check_false k _).mono ?_
  rintro e wx ⟨rfl, rfl⟩
  go_wp2
  simp [bodyPost]
  exact ⟨rfl, HB0.out⟩
set_option maxRecDepth 100000 in
set_option maxHeartbeats 4000000 in
theorem must_header (s : ByteArray) (y mo d h mi se me c p z : Int) (wd lt : Bool) (pl : Int) (w : World) : Calls Tryd.prog 43 #[.agg #[.string s, .int .i64 y, .int .i64 mo, .int .i64 d, .int .i64 h, .int .i64 mi, .int .i64 se, .int .i64 me, .int .u32 c, .int .i64 p, .int .i64 z, .bool wd, .bool lt, .int .i64 pl], .int .i64 0] w fun e w' => e = .returned (.agg #[.string s, .int .i64 y, .int .i64 mo, .int .i64 d, .int .i64 h, .int .i64 mi, .int .i64 se, .int .i64 me, .int .u32 c, .int .i64 p, .int .i64 z, .bool wd, .bool lt, .int .i64 pl]) ∧ Below w.heap.size w w' := by
  have HB0 := Lib.hid (((Below.refl w.heap.size w).alloc (Nat.le_refl _) (.cells #[.string s, .int .i64 y, .int .i64 mo, .int .i64 d, .int .i64 h, .int .i64 mi, .int .i64 se, .int .i64 me, .int .u32 c, .int .i64 p, .int .i64 z, .bool wd, .bool lt, .int .i64 pl] 28)).alloc (by simp) (.cells #[.string s, .int .i64 y, .int .i64 mo, .int .i64 d, .int .i64 h, .int .i64 mi, .int .i64 se, .int .i64 me, .int .u32 c, .int .i64 p, .int .i64 z, .bool wd, .bool lt, .int .i64 pl] 28))
  have HM := Lib.hid (Whole.new (w.alloc (.cells #[.string s, .int .i64 y, .int .i64 mo, .int .i64 d, .int .i64 h, .int .i64 mi, .int .i64 se, .int .i64 me, .int .u32 c, .int .i64 p, .int .i64 z, .bool wd, .bool lt, .int .i64 pl] 28)) 28 #[.string s, .int .i64 y, .int .i64 mo, .int .i64 d, .int .i64 h, .int .i64 mi, .int .i64 se, .int .i64 me, .int .u32 c, .int .i64 p, .int .i64 z, .bool wd, .bool lt, .int .i64 pl] (b := w.heap.size + 1) (by simp))
  have h0 := HM.out.cell 0
  have h1 := HM.out.cell 1
  have h2 := HM.out.cell 2
  have h3 := HM.out.cell 3
  have h4 := HM.out.cell 4
  have h5 := HM.out.cell 5
  have h6 := HM.out.cell 6
  have h7 := HM.out.cell 7
  have h8 := HM.out.cell 8
  have h9 := HM.out.cell 9
  have h10 := HM.out.cell 10
  have h11 := HM.out.cell 11
  have h12 := HM.out.cell 12
  have h13 := HM.out.cell 13
  simp at h0 h1 h2 h3 h4 h5 h6 h7 h8 h9 h10 h11 h12 h13
  go_enter Tryd.func43, Tryd.ntmps43
  go_wp2_with fail
  refine (check_true 0 _).mono ?_
  rintro e wx ⟨rfl, rfl⟩
  go_wp2
  simp [bodyPost, results, Tryd.results43, go_sem]
  exact HB0.out
set_option maxRecDepth 100000 in
set_option maxHeartbeats 4000000 in
theorem must_header_bad (s : ByteArray) (y mo d h mi se me c p z : Int) (wd lt : Bool) (pl : Int) (k : Int) (w : World) (hk : (k == 0) = false) : Calls Tryd.prog 43 #[.agg #[.string s, .int .i64 y, .int .i64 mo, .int .i64 d, .int .i64 h, .int .i64 mi, .int .i64 se, .int .i64 me, .int .u32 c, .int .i64 p, .int .i64 z, .bool wd, .bool lt, .int .i64 pl], .int .i64 k] w (Threw w k) := by
  have HB0 := Lib.hid (((Below.refl w.heap.size w).alloc (Nat.le_refl _) (.cells #[.string s, .int .i64 y, .int .i64 mo, .int .i64 d, .int .i64 h, .int .i64 mi, .int .i64 se, .int .i64 me, .int .u32 c, .int .i64 p, .int .i64 z, .bool wd, .bool lt, .int .i64 pl] 28)).alloc (by simp) (.cells #[.string ByteArray.empty, .int .i64 0, .int .i64 0, .int .i64 0, .int .i64 0, .int .i64 0, .int .i64 0, .int .i64 0, .int .u32 0, .int .i64 0, .int .i64 0, .bool false, .bool false, .int .i64 0] 28))
  go_enter Tryd.func43, Tryd.ntmps43
  go_wp2_with fail
  refine (check_false k _).mono ?_
  rintro e wx ⟨rfl, rfl⟩
  go_wp2
  simp [bodyPost]
  exact ⟨rfl, HB0.out⟩
end Go.Proofs.YtdmglpnieiiigaaDoor
