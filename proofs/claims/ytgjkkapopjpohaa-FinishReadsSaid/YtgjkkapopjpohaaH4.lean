/- What bytes end with; the page's wide and ends. -/
import Derived.Test.YtgjkkapopjpohaaH3
import Derived.Test.YtgjkkapopjpohaaTail
namespace Go.Proofs.Ytgjkkapopjpohaa
open Go.RowKit

def catB : List (Nat × Nat) → List UInt8 → Bool
  | [], E => E.isEmpty
  | (v, k) :: l, E => (num (E.take k) == v) && catB l (E.drop k)
theorem catB_iff (l : List (Nat × Nat)) (E : List UInt8) (hE : E.length = csz l) (hv : ∀ q ∈ l, q.1 < 256 ^ q.2) : catB l E = true ↔ E = cat l := by
  induction l generalizing E with
  | nil =>
    have : E = [] := List.length_eq_zero_iff.1 hE
    subst this
    simp [catB, cat]
  | cons q l ih =>
    obtain ⟨v, k⟩ := q
    have hk : csz ((v, k) :: l) = k + csz l := rfl
    rw [hk] at hE
    have hc : cat ((v, k) :: l) = leB v k ++ cat l := rfl
    have ht : (E.take k).length = k := by rw [List.length_take]; omega
    have ih' := ih (E.drop k) (by rw [List.length_drop]; omega) (fun q hq => hv q (List.mem_cons_of_mem _ hq))
    rw [hc, catB, Bool.and_eq_true, ih', beq_iff_eq]
    constructor
    · rintro ⟨h1, h2⟩
      have h3 := leB_num (E.take k)
      rw [ht, h1] at h3
      rw [h3, ← h2, List.take_append_drop]
    · intro h
      have h1 := hv (v, k) List.mem_cons_self
      rw [h, List.take_left' (leB_len v k), List.drop_left' (leB_len v k), num_leB]
      exact ⟨Nat.mod_eq_of_lt h1, rfl⟩
theorem bad_zero (l : List (Bool × Int)) (h : ∀ q ∈ l, q.1 = false → q.2 ≠ 0) : bad l = 0 ↔ ∀ q ∈ l, q.1 = true := by
  induction l with
  | nil => simp [bad]
  | cons q l ih =>
    obtain ⟨b, c⟩ := q
    have ih' := ih (fun q hq => h q (List.mem_cons_of_mem _ hq))
    cases b
    · have := h (false, c) List.mem_cons_self rfl
      simp [bad]
      exact this
    · simp [bad, ih']
def wideI (v : Nat) : Int := if v < 1099511627776 then (v : Int) else -1
theorem rwide_any (A : Option Addr) (n c : Nat) (bs : List UInt8) (S : Nat → Prop) (w : World) (v : Nat) (hB : Bs w S A n bs) (hn : n ≤ 8) (hv : num bs = v) : Calls Try.prog 21 #[.slice A n c] w fun e w' => e = .returned (.int .i64 (wideI v)) ∧ w = w' := by
  have HN := Lib.hid (number_any A n c bs S w hB hn)
  rw [hv] at HN
  clear hB hv
  by_cases h : v < 1099511627776
  · have e1 : wideI v = (v : Int) := by unfold wideI; rw [if_pos h]
    rw [e1]
    have d1 : decide (v < 1099511627776) = true := by simpa using h
    have d1' : decide ((v : Int) < 1099511627776) = true := by simp; omega
    have d2 : IntKind.i64.wrap (v : Int) = (v : Int) := IntWalk.i64_in _ (by omega)
    clear e1
    go_enter Try.func21, Try.ntmps21
    go_wp2_with fail
    refine HN.out.mono ?_
    rintro e wx ⟨rfl, rfl⟩
    go_wp2
    go_ret
    exact ⟨rfl, rfl⟩
  · have e1 : wideI v = -1 := by unfold wideI; rw [if_neg h]
    rw [e1]
    have d1 : decide (v < 1099511627776) = false := by simpa using h
    have d1' : decide ((v : Int) < 1099511627776) = false := by simp; omega
    clear e1
    go_enter Try.func21, Try.ntmps21
    go_wp2_with fail
    refine HN.out.mono ?_
    rintro e wx ⟨rfl, rfl⟩
    go_wp2
    go_ret
    exact ⟨rfl, rfl⟩
def EndP (w : World) (q : Bool) (e : Ending) (w' : World) : Prop := e = .returned (.bool q) ∧ Below w.heap.size w w'
theorem ends_bad (A : Option Addr) (n c : Nat) (x y z : Int) (b : Bool) (w : World) (h : okT x y z = false) : Calls Try.prog 22 #[.slice A n c, tl x y z b] w (EndP w false) := by
  have HRC : Hid (∀ w, Calls Try.prog 8 #[tl x y z b] w fun e w' => e = .returned (.bool false) ∧ Below w.heap.size w w') := Lib.hid (fun w => by
    have := rcheck_any x y z b w
    rwa [h, if_neg (by simp)] at this)
  have HB0 := Lib.hid ((Below.refl w.heap.size w).alloc (Nat.le_refl _) (.cells #[.int .i64 x, .int .i64 y, .int .i64 z, .bool b] 30))
  have HX := Whole.new w 30 #[.int .i64 x, .int .i64 y, .int .i64 z, .bool b] rfl
  have r0 := HX.cell 0
  have r1 := HX.cell 1
  have r2 := HX.cell 2
  have r3 := HX.cell 3
  simp at r0 r1 r2 r3
  clear h HX
  go_enter Try.func22, Try.ntmps22
  go_wp2_with fail
  refine (HRC.out _).mono ?_
  rintro e w1 ⟨rfl, hb⟩
  have HB := Lib.hid (HB0.out.trans (hb.mono HB0.out.size))
  clear hb
  go_wp2
  go_ret
  exact ⟨rfl, HB.out⟩
set_option maxHeartbeats 2000000 in
theorem ends_slim (A : Option Addr) (n c : Nat) (bs : List UInt8) (S : Nat → Prop) (x y z : Nat) (w : World) (hB : Bs w S A n bs) (hn : n ≤ 1000) (hnc : n ≤ c) (hx : x ≤ 1000) (hy : y < 4294967295) (hz : z < 4294967295) (q : Bool) (hq : (decide (22 ≤ n) && (bs.drop (n - 22) == enc x y z false)) = q) :
    Calls Try.prog 22 #[.slice A n c, tl x y z false] w (EndP w q) := by
  have HRC : Hid (∀ w, Calls Try.prog 8 #[tl x y z false] w fun e w' => e = .returned (.bool true) ∧ Below w.heap.size w w') := Lib.hid (fun w => by
    have := rcheck_any x y z false w
    rwa [show okT x y z = true by unfold okT; simp; omega, if_pos rfl] at this)
  have HE := Lib.hid (fun w => renc_slim x y z w hx hy hz)
  rw [← enc_eq] at HE
  obtain ⟨D, hD⟩ : ∃ D, enc x y z false = D := ⟨_, rfl⟩
  rw [hD] at HE hq
  have HB0 := Lib.hid ((Below.refl w.heap.size w).alloc (Nat.le_refl _) (.cells #[.int .i64 (x : Nat), .int .i64 (y : Nat), .int .i64 (z : Nat), .bool false] 30))
  have HX := Lib.hid (Whole.new w 30 #[.int .i64 (x : Nat), .int .i64 (y : Nat), .int .i64 (z : Nat), .bool false] rfl)
  have r0 := HX.out.cell 0
  have r1 := HX.out.cell 1
  have r2 := HX.out.cell 2
  have r3 := HX.out.cell 3
  simp at r0 r1 r2 r3
  have HBS := Lib.hid (hB.alloc (.cells #[.int .i64 (x : Nat), .int .i64 (y : Nat), .int .i64 (z : Nat), .bool false] 30))
  clear hD hB
  go_enter Try.func22, Try.ntmps22
  go_wp2_with fail
  refine (HRC.out _).mono ?_
  rintro e w1 ⟨rfl, hb⟩
  have HB := Lib.hid (HB0.out.trans (hb.mono HB0.out.size))
  have HX := Lib.hid (HX.out.below' hb)
  have HBS := Lib.hid (HBS.out.below hb)
  have r0 := HX.out.cell 0
  have r1 := HX.out.cell 1
  have r2 := HX.out.cell 2
  have r3 := HX.out.cell 3
  simp at r0 r1 r2 r3
  clear hb
  go_wp2_with fail
  refine (HE.out _).mono ?_
  rintro e w2 ⟨A2, c2, rfl, ho, hb⟩
  have HB := Lib.hid (HB.out.trans (hb.mono HB.out.size))
  have HBS := Lib.hid (HBS.out.below hb)
  have HO := Lib.hid (Bs.of_own ho)
  clear hb ho r0 r1 r2 r3
  by_cases hl : 22 ≤ n
  · have d1 : decide (22 ≤ n) = true := by simpa using hl
    have d1' : decide ((22 : Int) ≤ (n : Int)) = true := by simp; omega
    rw [d1, Bool.true_and] at hq
    obtain ⟨b, off, rfl, -, -, -⟩ := HBS.out.at_ (i := 0) (by omega)
    obtain ⟨m, hm⟩ : ∃ m, n - 22 = m := ⟨_, rfl⟩
    have hcut := HBS.out.cut (k := m) (c := c) (by omega) hnc
    rw [if_neg (by omega), ← hm] at hcut
    have hl2 : n - m = 22 := by omega
    rw [hm] at hcut hq
    rw [hl2] at hcut
    have e1 : IntKind.i64.wrap ((n : Int) - 22) = (m : Int) := by rw [IntWalk.i64_in _ (by omega)]; omega
    have e1' : ((n : Int) - 22) = (m : Int) := by omega
    have hmn : (m : Int) ≤ (n : Int) := by omega
    have hmc : ¬ c = m := by omega
    have hm0 : (0 : Int) ≤ (m : Int) := by omega
    have k1 : ∀ nq, (convert 25 9 (.slice (some ⟨b, off + m, none⟩) 22 (c - m))).run Try.prog (w2.drewN nq) = .ok (.string ⟨(bs.drop m).toArray⟩) (w2.drewN nq) := fun nq => str_of (c - m) (hcut.drewN nq)
    have k2 : ∀ nq, (convert 25 9 (.slice A2 22 c2)).run Try.prog (w2.drewN nq) = .ok (.string ⟨D.toArray⟩) (w2.drewN nq) := fun nq => str_of c2 (HO.out.drewN nq)
    have HQ := Lib.hid hq
    clear hm hcut hq
    go_wp2_with fail
    go_quiet (fail)
    go_wp2
    rw [HQ.out]
    go_ret
    exact ⟨rfl, HB.out.drewN' _⟩
  · have d1 : decide (22 ≤ n) = false := by simpa using hl
    have d1' : decide ((22 : Int) ≤ (n : Int)) = false := by simp; omega
    rw [d1, Bool.false_and] at hq
    subst hq
    go_wp2_with fail
    go_quiet (fail)
    go_wp2
    go_ret
    exact ⟨rfl, HB.out.drewN' _⟩
set_option maxHeartbeats 2000000 in
theorem ends_wide (A : Option Addr) (n c : Nat) (bs : List UInt8) (S : Nat → Prop) (x y z : Nat) (w : World) (hB : Bs w S A n bs) (hn : n ≤ 1000) (hnc : n ≤ c) (hx : x ≤ 1000) (hy : y < 4294967295) (hz : z < 4294967295) (q : Bool) (hq : (decide (98 ≤ n) && (bs.drop (n - 98) == enc x y z true)) = q) :
    Calls Try.prog 22 #[.slice A n c, tl x y z true] w (EndP w q) := by
  have HRC : Hid (∀ w, Calls Try.prog 8 #[tl x y z true] w fun e w' => e = .returned (.bool true) ∧ Below w.heap.size w w') := Lib.hid (fun w => by
    have := rcheck_any x y z true w
    rwa [show okT x y z = true by unfold okT; simp; omega, if_pos rfl] at this)
  have HE := Lib.hid (fun w => renc_wide x y z w hx hy hz)
  rw [← enc_eq] at HE
  obtain ⟨D, hD⟩ : ∃ D, enc x y z true = D := ⟨_, rfl⟩
  rw [hD] at HE hq
  have HB0 := Lib.hid ((Below.refl w.heap.size w).alloc (Nat.le_refl _) (.cells #[.int .i64 (x : Nat), .int .i64 (y : Nat), .int .i64 (z : Nat), .bool true] 30))
  have HX := Lib.hid (Whole.new w 30 #[.int .i64 (x : Nat), .int .i64 (y : Nat), .int .i64 (z : Nat), .bool true] rfl)
  have r0 := HX.out.cell 0
  have r1 := HX.out.cell 1
  have r2 := HX.out.cell 2
  have r3 := HX.out.cell 3
  simp at r0 r1 r2 r3
  have HBS := Lib.hid (hB.alloc (.cells #[.int .i64 (x : Nat), .int .i64 (y : Nat), .int .i64 (z : Nat), .bool true] 30))
  clear hD hB
  go_enter Try.func22, Try.ntmps22
  go_wp2_with fail
  refine (HRC.out _).mono ?_
  rintro e w1 ⟨rfl, hb⟩
  have HB := Lib.hid (HB0.out.trans (hb.mono HB0.out.size))
  have HX := Lib.hid (HX.out.below' hb)
  have HBS := Lib.hid (HBS.out.below hb)
  have r0 := HX.out.cell 0
  have r1 := HX.out.cell 1
  have r2 := HX.out.cell 2
  have r3 := HX.out.cell 3
  simp at r0 r1 r2 r3
  clear hb
  go_wp2_with fail
  refine (HE.out _).mono ?_
  rintro e w2 ⟨A2, c2, rfl, ho, hb⟩
  have HB := Lib.hid (HB.out.trans (hb.mono HB.out.size))
  have HBS := Lib.hid (HBS.out.below hb)
  have HO := Lib.hid (Bs.of_own ho)
  clear hb ho r0 r1 r2 r3
  by_cases hl : 98 ≤ n
  · have d1 : decide (98 ≤ n) = true := by simpa using hl
    have d1' : decide ((98 : Int) ≤ (n : Int)) = true := by simp; omega
    rw [d1, Bool.true_and] at hq
    obtain ⟨b, off, rfl, -, -, -⟩ := HBS.out.at_ (i := 0) (by omega)
    obtain ⟨m, hm⟩ : ∃ m, n - 98 = m := ⟨_, rfl⟩
    have hcut := HBS.out.cut (k := m) (c := c) (by omega) hnc
    rw [if_neg (by omega), ← hm] at hcut
    have hl2 : n - m = 98 := by omega
    rw [hm] at hcut hq
    rw [hl2] at hcut
    have e1 : IntKind.i64.wrap ((n : Int) - 98) = (m : Int) := by rw [IntWalk.i64_in _ (by omega)]; omega
    have e1' : ((n : Int) - 98) = (m : Int) := by omega
    have hmn : (m : Int) ≤ (n : Int) := by omega
    have hmc : ¬ c = m := by omega
    have hm0 : (0 : Int) ≤ (m : Int) := by omega
    have k1 : ∀ nq, (convert 25 9 (.slice (some ⟨b, off + m, none⟩) 98 (c - m))).run Try.prog (w2.drewN nq) = .ok (.string ⟨(bs.drop m).toArray⟩) (w2.drewN nq) := fun nq => str_of (c - m) (hcut.drewN nq)
    have k2 : ∀ nq, (convert 25 9 (.slice A2 98 c2)).run Try.prog (w2.drewN nq) = .ok (.string ⟨D.toArray⟩) (w2.drewN nq) := fun nq => str_of c2 (HO.out.drewN nq)
    have HQ := Lib.hid hq
    clear hm hcut hq
    go_wp2_with fail
    go_quiet (fail)
    go_wp2
    rw [HQ.out]
    go_ret
    exact ⟨rfl, HB.out.drewN' _⟩
  · have d1 : decide (98 ≤ n) = false := by simpa using hl
    have d1' : decide ((98 : Int) ≤ (n : Int)) = false := by simp; omega
    rw [d1, Bool.false_and] at hq
    subst hq
    go_wp2_with fail
    go_quiet (fail)
    go_wp2
    go_ret
    exact ⟨rfl, HB.out.drewN' _⟩
end Go.Proofs.Ytgjkkapopjpohaa
