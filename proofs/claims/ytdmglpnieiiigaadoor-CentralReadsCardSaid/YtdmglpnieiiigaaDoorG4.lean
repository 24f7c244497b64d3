/- What is taken of a reader. -/
import Derived.Test.YtdmglpnieiiigaaDoorG3
import Derived.Test.YtdmglpnieiiigaaDoorC0
import Derived.IntWalk
import Derived.Defers
import Derived.Recover
namespace Go.Proofs.YtdmglpnieiiigaaDoor
open Go.RowKit

/-- A reader that has moved on: beside its block, new blocks alone. -/
def Moved (w : World) (g : Nat) (A : Option Addr) (n c : Nat) (p : Nat) (w' : World) : Prop := Alone w w' g ∧ Whole w' g 70 #[.slice A n c, .int .i64 p]
set_option maxRecDepth 100000 in
theorem Moved.rdr {w w' : World} {g n c p q : Nat} {A : Option Addr} {bs : List UInt8} (h : Rdr w g A n c bs p) (k : Moved w g A n c q w') : Rdr w' g A n c bs q := ⟨k.2, h.2.keep k.1.size fun b hb hg => k.1.2.2.2.2 b hb hg⟩
def TakeP (w : World) (g : Nat) (A : Option Addr) (n c q k : Nat) (xs : List UInt8) (e : Ending) (w' : World) : Prop :=
  ∃ A2 c2, e = .returned (.slice A2 k c2) ∧ Bs w' (fun b => b ≠ g) A2 k xs ∧ Moved w g A n c q w'
set_option maxRecDepth 100000 in
set_option maxHeartbeats 1000000 in
theorem take_ok (g : Nat) (A : Option Addr) (n c : Nat) (bs : List UInt8) (p k : Nat) (w : World) (h : Rdr w g A n c bs p) (hp : p + k ≤ n) (hnc : n ≤ c) (hn : n ≤ 140737488355328) (_hc : c ≤ 9223372036854775807) :
    Calls Tryd.prog 55 #[.pointer (some ⟨g, 0, none⟩), .int .i64 k] w (TakeP w g A n c (p + k) k ((bs.drop p).take k)) := by
  have HL := Lib.hid (left_any g A n c bs p w h (by omega) hn)
  have H := Lib.hid h
  clear h
  go_enter Tryd.func55, Tryd.ntmps55
  go_wp2_with fail
  refine HL.out.mono ?_
  rintro e w1 ⟨rfl, hb1⟩
  have H1 := Lib.hid (H.out.below hb1)
  have HB1 := Lib.hid hb1
  have c1 := H1.out.1.cell 1
  have f1 := H1.out.1.free 1
  have hle : decide ((k : Int) ≤ (n : Int) - p) = true := by simp; omega
  clear hb1 HL
  go_wp2_with fail
  refine (check_true 4 w1).mono ?_
  rintro e w2 ⟨rfl, rfl⟩
  go_wp2_with fail
  obtain ⟨W, hW⟩ : ∃ W, w1.setCell ⟨g, 1, none⟩ (.int .i64 ((p : Int) + k)) = W := ⟨_, rfl⟩
  have hM : Moved w g A n c (p + k) W := hW ▸ ⟨(Alone.of_below HB1.out g).trans ((Alone.refl w1 g).put 1 _), by
    have := H1.out.1.put 1 (.int .i64 ((p : Int) + k)) rfl
    simpa using this⟩
  have hR := hM.rdr H.out
  rw [hW]
  clear hW c1 f1 HB1 H1 hle
  have c0 := hM.2.cell 0
  have f0 := hM.2.free 0
  have c1 := hM.2.cell 1
  have f1 := hM.2.free 1
  have HM := Lib.hid hM
  have HR := Lib.hid hR
  clear hM hR H
  rcases A with _ | a
  · obtain ⟨rfl, hbs⟩ := HR.out.2.nil_of
    obtain rfl : p = 0 := by omega
    obtain rfl : k = 0 := by omega
    go_quiet (fail)
    go_wp2
    all_goals
      go_ret
      exact ⟨_, _, rfl, by rw [List.take_zero]; exact Bs.empty _ _ _, ⟨HM.out.1.drewN _, HM.out.2⟩⟩
  · rcases a with ⟨b, off, sp⟩
    have hsp : n = 0 ∨ sp = none := by
      rcases Nat.eq_zero_or_pos n with h0 | h0
      · exact .inl h0
      · obtain ⟨b', off', e, _⟩ := HR.out.2.at_ h0
        right
        injection e with e
        injection e
    have hsub : IntKind.i64.wrap ((p : Int) + k - k) = p := by rw [IntWalk.i64_in _ (by omega)]; omega
    have hB : Bs W (fun b => b ≠ g) (if c = p then some ⟨b, off, sp⟩ else some ((⟨b, off, sp⟩ : Addr).add p)) k ((bs.drop p).take k) := by
      rcases Nat.eq_zero_or_pos k with h0 | h0
      · subst h0
        rw [List.take_zero]
        exact Bs.empty _ _ _
      · obtain rfl : sp = none := by rcases hsp with h | h; omega; exact h
        rw [if_neg (by omega), addr_add]
        exact (HR.out.2.drop (k := p) (by omega)).take (by omega)
    go_quiet (fail)
    rw [show p + k - p = k by omega]
    generalize (if c = p then some (⟨b, off, sp⟩ : Addr) else some ((⟨b, off, sp⟩ : Addr).add p)) = A3 at hB ⊢
    go_wp2
    go_ret
    exact ⟨_, _, rfl, hB.drewN _, ⟨HM.out.1.drewN _, HM.out.2⟩⟩
set_option maxRecDepth 100000 in
theorem take_short (g : Nat) (A : Option Addr) (n c : Nat) (bs : List UInt8) (p k : Nat) (w : World) (h : Rdr w g A n c bs p) (hp : p ≤ n) (hk : n < p + k) (hn : n ≤ 140737488355328) (_hkk : k ≤ 9223372036854775807) :
    Calls Tryd.prog 55 #[.pointer (some ⟨g, 0, none⟩), .int .i64 k] w fun e w' => e = .panicked [{ v := fault 4, recovered := false }] ∧ Below w.heap.size w w' := by
  have HL := Lib.hid (left_any g A n c bs p w h (by omega) hn)
  clear h
  go_enter Tryd.func55, Tryd.ntmps55
  go_wp2_with fail
  refine HL.out.mono ?_
  rintro e w1 ⟨rfl, hb1⟩
  have HB1 := Lib.hid hb1
  have hle : decide ((k : Int) ≤ (n : Int) - p) = false := by simp; omega
  clear hb1 HL
  go_wp2_with fail
  refine (check_false 4 w1).mono ?_
  rintro e w2 ⟨rfl, rfl⟩
  go_wp2
  simp [bodyPost, fault]
  exact HB1.out
def Threw (w : World) (c : Int) (e : Ending) (w' : World) : Prop := e = .panicked [{ v := fault c, recovered := false }] ∧ Below w.heap.size w w'
set_option maxRecDepth 100000 in
theorem Moved.of_below {w w' : World} {g n c p : Nat} {A : Option Addr} {bs : List UInt8} (h : Rdr w g A n c bs p) (k : Below w.heap.size w w') : Moved w g A n c p w' := ⟨Alone.of_below k g, h.1.below' k⟩
set_option maxRecDepth 100000 in
theorem Moved.then {w w' w'' : World} {g n c p : Nat} {A : Option Addr} (h : Moved w g A n c p w') (k : Below w'.heap.size w' w'') : Moved w g A n c p w'' := ⟨h.1.trans (Alone.of_below k g), h.2.below' k⟩
def IntP (w : World) (g : Nat) (A : Option Addr) (n c q : Nat) (v : Nat) (e : Ending) (w' : World) : Prop := e = .returned (.int .u64 v) ∧ Moved w g A n c q w'
set_option maxRecDepth 100000 in
theorem int_wrong (r : Value) (N : Int) (w : World) (hN : rightW N = false) : Calls Tryd.prog 37 #[r, .int .i64 N] w (Threw w 1) := by
  have HR := Lib.hid (right_any N w)
  rw [hN] at HR
  clear hN
  go_enter Tryd.func37, Tryd.ntmps37
  go_wp2_with fail
  refine HR.out.mono ?_
  rintro e w1 ⟨rfl, rfl⟩
  go_wp2_with fail
  refine (check_false 1 w).mono ?_
  rintro e w2 ⟨rfl, rfl⟩
  go_wp2
  simp [bodyPost]
  exact ⟨rfl, Below.refl _ _⟩
set_option maxRecDepth 100000 in
theorem int_short (g : Nat) (A : Option Addr) (n c : Nat) (bs : List UInt8) (p k : Nat) (w : World) (h : Rdr w g A n c bs p) (hp : p ≤ n) (hk : n < p + k) (hn : n ≤ 140737488355328) (h1 : 1 ≤ k) (h8 : k ≤ 8) :
    Calls Tryd.prog 37 #[.pointer (some ⟨g, 0, none⟩), .int .i64 k] w (Threw w 4) := by
  have HT := Lib.hid (take_short g A n c bs p k w h hp hk hn (by omega))
  have HR := Lib.hid (right_any k w)
  rw [show rightW k = true by unfold rightW; simp; omega] at HR
  clear h
  go_enter Tryd.func37, Tryd.ntmps37
  go_wp2_with fail
  refine HR.out.mono ?_
  rintro e w1 ⟨rfl, rfl⟩
  go_wp2_with fail
  refine (check_true 1 w).mono ?_
  rintro e w2 ⟨rfl, rfl⟩
  go_wp2_with fail
  refine HT.out.mono ?_
  rintro e w2 ⟨rfl, hb⟩
  have HB := Lib.hid hb
  clear hb
  go_wp2
  simp [bodyPost, fault]
  exact ⟨rfl, HB.out⟩
set_option maxRecDepth 100000 in
theorem int_ok (g : Nat) (A : Option Addr) (n c : Nat) (bs : List UInt8) (p k : Nat) (w : World) (h : Rdr w g A n c bs p) (hp : p + k ≤ n) (hnc : n ≤ c) (hn : n ≤ 140737488355328) (hc : c ≤ 9223372036854775807) (h1 : 1 ≤ k) (h8 : k ≤ 8) :
    Calls Tryd.prog 37 #[.pointer (some ⟨g, 0, none⟩), .int .i64 k] w (IntP w g A n c (p + k) (num ((bs.drop p).take k))) := by
  have HT := Lib.hid (take_ok g A n c bs p k w h hp hnc hn hc)
  have HR := Lib.hid (right_any k w)
  rw [show rightW k = true by unfold rightW; simp; omega] at HR
  clear h
  obtain ⟨v, hv⟩ : ∃ v, num ((bs.drop p).take k) = v := ⟨_, rfl⟩
  rw [hv]
  have HV := Lib.hid hv
  clear hv
  go_enter Tryd.func37, Tryd.ntmps37
  go_wp2_with fail
  refine HR.out.mono ?_
  rintro e w1 ⟨rfl, rfl⟩
  go_wp2_with fail
  refine (check_true 1 w).mono ?_
  rintro e w2 ⟨rfl, rfl⟩
  go_wp2_with fail
  refine HT.out.mono ?_
  rintro e w2 ⟨A2, c2, rfl, hB, hM⟩
  have HG := Lib.hid (get_yes A2 k c2 _ _ 0 k w2 hB (by omega) h1 h8 (by omega))
  rw [List.drop_zero, List.take_of_length_le (by rw [hB.len]; exact Nat.le_refl _)] at HG
  have HM := Lib.hid hM
  clear hB hM HT
  rw [HV.out] at HG
  go_wp2_with fail
  refine HG.out.mono ?_
  rintro e w3 ⟨rfl, rfl⟩
  go_wp2
  go_ret
  exact ⟨rfl, HM.out⟩
set_option maxRecDepth 100000 in
theorem want_threw (r : Value) (N : Int) (V E c : Int) (w : World) (h : Calls Tryd.prog 37 #[r, .int .i64 N] w (Threw w c)) : Calls Tryd.prog 36 #[r, .int .i64 N, .int .u64 V, .int .i64 E] w (Threw w c) := by
  have H := Lib.hid h
  clear h
  go_enter Tryd.func36, Tryd.ntmps36
  go_wp2_with fail
  refine H.out.mono ?_
  rintro e w2 ⟨rfl, hb⟩
  have HB := Lib.hid hb
  clear hb
  go_wp2
  simp [bodyPost, fault]
  exact ⟨rfl, HB.out⟩
def WantP (w : World) (g : Nat) (A : Option Addr) (n c q : Nat) (b : Bool) (E : Int) (e : Ending) (w' : World) : Prop := e = (if b then .returned (.tuple #[]) else .panicked [{ v := fault E, recovered := false }]) ∧ Moved w g A n c q w'
set_option maxRecDepth 100000 in
theorem want_ok (g : Nat) (A : Option Addr) (n c q v : Nat) (V E N : Int) (b : Bool) (w : World) (hb : ((v : Int) == V) = b) (h : Calls Tryd.prog 37 #[.pointer (some ⟨g, 0, none⟩), .int .i64 N] w (IntP w g A n c q v)) :
    Calls Tryd.prog 36 #[.pointer (some ⟨g, 0, none⟩), .int .i64 N, .int .u64 V, .int .i64 E] w (WantP w g A n c q b E) := by
  have H := Lib.hid h
  clear h
  go_enter Tryd.func36, Tryd.ntmps36
  go_wp2_with fail
  refine H.out.mono ?_
  rintro e w2 ⟨rfl, hM⟩
  have HM := Lib.hid hM
  clear hM
  cases b
  · go_wp2_with fail
    refine (check_false E w2).mono ?_
    rintro e w3 ⟨rfl, rfl⟩
    go_wp2
    simp [bodyPost]
    exact ⟨rfl, HM.out⟩
  · go_wp2_with fail
    refine (check_true E w2).mono ?_
    rintro e w3 ⟨rfl, rfl⟩
    go_wp2
    go_end0
    exact ⟨rfl, HM.out⟩
def OverP (w : World) (n : Nat) (bs : List UInt8) (e : Ending) (w' : World) : Prop :=
  ∃ A2 c2 g, e = .returned (.pointer (some ⟨g, 0, none⟩)) ∧ w.heap.size ≤ g ∧ Rdr w' g A2 n c2 bs 0 ∧ n ≤ c2 ∧ c2 ≤ 9223372036854775807 ∧ Below w.heap.size w w'
set_option maxRecDepth 100000 in
theorem over_any (A : Option Addr) (n c : Nat) (bs : List UInt8) (S : Nat → Prop) (w : World) (hB : Bs w S A n bs) (hn : n ≤ 1000) : Calls Tryd.prog 14 #[.slice A n c] w (OverP w n bs) := by
  have HC := Lib.hid (clone_any A n c bs S w hB (by omega))
  clear hB
  go_enter Tryd.func14, Tryd.ntmps14
  go_wp2_with fail
  refine HC.out.mono ?_
  rintro e w2 ⟨A2, c2, rfl, ho, hb⟩
  have hcap := own_cap ho
  have HB := Lib.hid (((Bs.of_own ho).and_lt).mono fun b (hb : w.heap.size ≤ b ∧ b < w2.heap.size) => show b ≠ w2.heap.size by omega)
  have HW := Lib.hid hb
  clear ho hb HC
  go_wp2
  go_ret
  exact ⟨A2, c2, w2.heap.size, rfl, HW.out.size, ⟨Whole.new w2 70 _ rfl, HB.out.alloc _⟩, hcap.1, hcap.2, HW.out.alloc HW.out.size _⟩
end Go.Proofs.YtdmglpnieiiigaaDoor
