/- Calls of the window, read whole. -/
import Derived.Test.YtphphejabgjnjaaV6
namespace Go
open Go.ChangeShapes Go.WideShapes Go.ChangeAt Go.RowKit Go.Deep

/-- A call: its kind, a distance, a number, bytes. -/
abbrev Wop := Int × Int × Int × List UInt8
def Ops (w : World) (A : Option Addr) (n : Nat) (l : List Wop) : Prop :=
  l.length = n ∧ ∀ i, i < n → ∃ b off B d, A = some ⟨b, off, none⟩ ∧ b < w.heap.size ∧ w.cell? ⟨b, off + i * 4, none⟩ = some (.int .i64 (l.getD i (0, 0, 0, [])).1) ∧ w.cell? ⟨b, off + i * 4 + 1, none⟩ = some (.int .i64 (l.getD i (0, 0, 0, [])).2.1) ∧
    w.cell? ⟨b, off + i * 4 + 2, none⟩ = some (.int .i64 (l.getD i (0, 0, 0, [])).2.2.1) ∧ w.cell? ⟨b, off + i * 4 + 3, none⟩ = some (.slice B (l.getD i (0, 0, 0, [])).2.2.2.length d) ∧
    Bs w (fun k => k < w.heap.size) B (l.getD i (0, 0, 0, [])).2.2.2.length (l.getD i (0, 0, 0, [])).2.2.2
section
variable {H : Type} {enc : TypeId × Value → H} {P : Program} {w : World} {base : Nat} {spare : Nat → Bool} {held : Bool}
theorem bytes_at {t e : TypeId} {fuel : Nat} {cs : List Value} {x : DataW H × List MemPlace} (ht : P.underlying t = some (.slice e)) (he : P.underlying e = some (.int .u8)) (hone : P.cellsOf e = 1) (h : DataW.trod enc P w base spare held fuel t cs = some x) :
    ∃ (A : Option Addr) (c : Nat) (bs : List UInt8), cs = [.slice A bs.length c] ∧ Bs w (fun k => k < w.heap.size) A bs.length bs := by
  rcases open_slice ht h with ⟨hcs, _⟩ | ⟨a, len, cap, m', n, D, Pl, hcs, hb, hl, hm, hmm, hx, hel⟩
  · exact ⟨none, 0, [], hcs, Bs.empty _ _ _⟩
  · have hle : len ≤ m' := by rw [hmm]; split <;> omega
    have key : ∀ q, q < len → ∃ z, w.cell? (a.add q) = some (.int .u8 z) ∧ (Lit.int .u8 z).wf = true := by
      intro q hq
      obtain ⟨cs', hc, htr⟩ := hel q (by omega)
      rw [hone, Nat.mul_one] at hc
      obtain ⟨_, hcl, hat⟩ := World.cells?_some hc
      obtain ⟨z, e0, _, wz⟩ := DataW.trod_int he htr
      refine ⟨z, ?_, wz⟩
      have h3 := hat 0 (by omega)
      rw [Go.Deep.add_add, e0] at h3
      simpa using h3
    obtain ⟨F, hF⟩ : ∃ F : Nat → Int, ∀ q, q < len → w.cell? (a.add q) = some (.int .u8 (F q)) ∧ (Lit.int .u8 (F q)).wf = true := by
      classical
      exact ⟨fun q => if hq : q < len then (key q hq).choose else 0, fun q hq => by
        simp only [hq, dite_true]
        exact (key q hq).choose_spec⟩
    have hI : IntsAt w (some a) len .u8 F := by
      intro h0
      have hz1 : w.cell? a = some (.int .u8 (F 0)) := by simpa [Addr.add] using (hF 0 h0).1
      obtain ⟨hbl, hsp⟩ := cell_somewhere hz1
      obtain ⟨b, off, sp⟩ := a
      simp only at hsp hbl
      subst hsp
      refine ⟨b, off, rfl, hbl, fun q hq => ?_⟩
      obtain ⟨h1, h2⟩ := hF q hq
      refine ⟨?_, h2⟩
      rw [addr_add] at h1
      exact h1
    obtain ⟨ns, hnl, h4, h5⟩ := hI.lst
    obtain ⟨bs, hbs⟩ := bytes_of ns h5
    rw [hbs] at h4
    have hB : Bs w (fun k => k < w.heap.size) (some a) len bs := h4
    have hlen := hB.len
    subst hlen
    exact ⟨some a, cap, bs, hcs, hB⟩
theorem open_ops {t e u u3 e3 : TypeId} {f0 f1 f2 f3 : Field} {v : Value} {d : DataW H} {p : List MemPlace} (ht : P.underlying t = some (.slice e)) (he : P.underlying e = some (.struct #[f0, f1, f2, f3])) (h0 : f0.offset = 0) (h1 : f1.offset = 1) (h2 : f2.offset = 2) (h3 : f3.offset = 3)
    (hu0 : f0.type = u) (hu1 : f1.type = u) (hu2 : f2.type = u) (hu3 : f3.type = u3) (hu : P.underlying u = some (.int .i64)) (hv3 : P.underlying u3 = some (.slice e3)) (hw3 : P.underlying e3 = some (.int .u8))
    (ho : P.cellsOf u = 1) (ho3 : P.cellsOf u3 = 1) (hoe : P.cellsOf e3 = 1) (hC : P.cellsOf e = 4)
    {r : Reach} {b0 : Nat} (hv : Value.okWide P w r b0 t v) (h : DataW.Trod enc P w base spare held t v d p) :
    ∃ (A : Option Addr) (n c : Nat) (l : List Wop), v = .slice A n c ∧ Ops w A n l := by
  obtain ⟨A, len, cap, rfl⟩ := okWide_slice ht hv
  obtain ⟨fuel, hf⟩ := h
  rcases open_slice ht hf with ⟨hcs, _⟩ | ⟨a, len', cap', m', n, D, Pl, hcs, hb, hl, hm, hmm, hx, hel⟩
  · simp [Value.cells] at hcs
    obtain ⟨rfl, rfl, rfl⟩ := hcs
    exact ⟨none, 0, 0, [], rfl, ⟨rfl, fun i hi => absurd hi (by omega)⟩⟩
  · simp [Value.cells] at hcs
    obtain ⟨rfl, rfl, rfl⟩ := hcs
    have hle : len ≤ m' := by rw [hmm]; split <;> omega
    have key : ∀ q, q < len → ∃ z : Wop, ∃ (B : Option Addr) (dd : Nat), w.cell? (a.add (q * 4)) = some (.int .i64 z.1) ∧ w.cell? (a.add (q * 4 + 1)) = some (.int .i64 z.2.1) ∧ w.cell? (a.add (q * 4 + 2)) = some (.int .i64 z.2.2.1) ∧ w.cell? (a.add (q * 4 + 3)) = some (.slice B z.2.2.2.length dd) ∧
        Bs w (fun k => k < w.heap.size) B z.2.2.2.length z.2.2.2 := by
      intro q hq
      obtain ⟨cs', hc, htr⟩ := hel q (by omega)
      rw [hC] at hc
      obtain ⟨_, hcl, hat⟩ := World.cells?_some hc
      obtain ⟨xs, k, _, _, hlen, _, hfd⟩ := DataW.trod_struct he htr
      match cs', hcl with
      | [c0, c1, c2, c3], _ =>
        have g0 := hfd 0 f0 rfl
        have g1 := hfd 1 f1 rfl
        have g2 := hfd 2 f2 rfl
        have g3 := hfd 3 f3 rfl
        rw [h0, hu0, ho] at g0
        rw [h1, hu1, ho] at g1
        rw [h2, hu2, ho] at g2
        rw [h3, hu3, ho3] at g3
        have hxl : xs.length = 4 := by assumption
        rw [List.getElem?_eq_getElem (by omega)] at g0
        rw [List.getElem?_eq_getElem (by omega)] at g1
        rw [List.getElem?_eq_getElem (by omega)] at g2
        rw [List.getElem?_eq_getElem (by omega)] at g3
        obtain ⟨x, e0, _, _⟩ := DataW.trod_int hu g0
        obtain ⟨y, e1, _, _⟩ := DataW.trod_int hu g1
        obtain ⟨z, e2, _, _⟩ := DataW.trod_int hu g2
        obtain ⟨B, dd, bs, e3', hBs⟩ := bytes_at hv3 hw3 hoe g3
        simp at e0 e1 e2 e3'
        subst e0 e1 e2 e3'
        refine ⟨(x, y, z, bs), B, dd, ?_, ?_, ?_, ?_, hBs⟩
        · have h3 := hat 0 (by simp)
          rw [Go.Deep.add_add] at h3
          simpa using h3
        · have h3 := hat 1 (by simp)
          rw [Go.Deep.add_add] at h3
          simpa using h3
        · have h3 := hat 2 (by simp)
          rw [Go.Deep.add_add] at h3
          simpa using h3
        · have h3 := hat 3 (by simp)
          rw [Go.Deep.add_add] at h3
          simpa using h3
    obtain ⟨F, hF⟩ : ∃ F : Nat → Wop, ∀ q, q < len → ∃ (B : Option Addr) (dd : Nat), w.cell? (a.add (q * 4)) = some (.int .i64 (F q).1) ∧ w.cell? (a.add (q * 4 + 1)) = some (.int .i64 (F q).2.1) ∧ w.cell? (a.add (q * 4 + 2)) = some (.int .i64 (F q).2.2.1) ∧ w.cell? (a.add (q * 4 + 3)) = some (.slice B (F q).2.2.2.length dd) ∧
        Bs w (fun k => k < w.heap.size) B (F q).2.2.2.length (F q).2.2.2 := by
      classical
      exact ⟨fun q => if hq : q < len then (key q hq).choose else (0, 0, 0, []), fun q hq => by
        simp only [hq, dite_true]
        exact (key q hq).choose_spec⟩
    clear key hel
    refine ⟨some a, len, cap, (List.range len).map F, rfl, ⟨by simp, fun i hi => ?_⟩⟩
    · obtain ⟨_, _, hz1, _⟩ := hF 0 (by omega)
      have hz1 : w.cell? a = some (.int .i64 (F 0).1) := by simpa [Addr.add] using hz1
      obtain ⟨hbl, hsp⟩ := cell_somewhere hz1
      obtain ⟨b, off, sp⟩ := a
      simp only at hsp hbl
      subst hsp
      obtain ⟨B, dd, k0, k1, k2, k3, k4⟩ := hF i hi
      rw [addr_add] at k0 k1 k2 k3
      rw [← Nat.add_assoc] at k1 k2 k3
      have e : ((List.range len).map F).getD i (0, 0, 0, []) = F i := by
        rw [List.getD_eq_getElem?_getD, List.getElem?_map, List.getElem?_range hi]
        rfl
      rw [e]
      exact ⟨b, off, B, dd, rfl, hbl, k0, k1, k2, k3, k4⟩
end
theorem Ops.below {w w' : World} {A : Option Addr} {n : Nat} {l : List Wop} (h : Ops w A n l) (hb : Below w.heap.size w w') : Ops w' A n l := by
  refine ⟨h.1, fun i hi => ?_⟩
  obtain ⟨b, off, B, d, e, h1, h2, h3, h4, h5, h6⟩ := h.2 i hi
  exact ⟨b, off, B, d, e, Nat.lt_of_lt_of_le h1 hb.size, (hb.cell h1).trans h2, (hb.cell h1).trans h3, (hb.cell h1).trans h4, (hb.cell h1).trans h5, (h6.below hb).mono (fun k hk => Nat.lt_of_lt_of_le hk hb.size)⟩
end Go
namespace Go.Proofs.Ytphphejabgjnjaa
open Go.RowKit
def Fine (q : Wop) : Prop := q.2.2.2.length ≤ 4000 ∧ (q.1 = 4 → q.2.2.1 ≤ 20) ∧ (q.1 = 1 → q.2.2.1 ≤ 40000 ∨ 1048576 < q.2.2.1)
theorem fine_snoc (l : List Wop) (j : Nat) (h : j < l.length) (hf : ∀ q ∈ l.take j, Fine q) (hq : Fine (l.getD j (0, 0, 0, []))) : ∀ q ∈ l.take (j + 1), Fine q := by
  intro q hm
  rw [List.take_succ_eq_append_getElem h, List.mem_append] at hm
  rcases hm with hm | hm
  · exact hf q hm
  · rw [List.mem_singleton] at hm
    subst hm
    rw [List.getD_eq_getElem?_getD, List.getElem?_eq_getElem h] at hq
    exact hq
def LightP (n : Nat) (l : List Wop) (w : World) (e : Ending) (w' : World) : Prop := ∃ r z, e = .returned (.bool r) ∧ w' = w.drewN z ∧ (r = true → n ≤ 40 ∧ ∀ q ∈ l, Fine q)
set_option maxRecDepth 100000 in
set_option maxHeartbeats 8000000 in
theorem light_any (A : Option Addr) (n c : Nat) (l : List Wop) (w : World) (hL : Ops w A n l) :
    Calls Try.prog 6 #[.slice A n c] w (LightP n l w) := by
  have HLen := Lib.hid hL.1
  have HL := Lib.hid hL
  clear hL
  go_enter Try.func6, Try.ntmps6
  by_cases hn : 40 < n
  · have d1 : decide (40 < n) = true := by simpa using hn
    have d1' : decide ((40 : Int) < (n : Int)) = true := by simp; omega
    go_wp2
    go_ret
    exact ⟨false, 0, rfl, rfl, fun e => by cases e⟩
  have d1 : decide (40 < n) = false := by simpa using hn
  have d1' : decide ((40 : Int) < (n : Int)) = false := by simp; omega
  go_wp2
  clear d1 d1'
  go_loopw [3, 4] (fun o i wr => ∃ (j s z : Nat), j ≤ n ∧ i = .int .i64 (j : Nat) ∧ o = .int .i64 (s : Nat) ∧ s ≤ 84000 * j ∧ Hid (∀ q ∈ l.take j, Fine q) ∧ wr = w.drewN z) (fun _ i _ => n - (intOf i).toNat)
  case atStart => exact ⟨0, 0, 0, Nat.zero_le _, rfl, rfl, by omega, Lib.hid (by simp), rfl⟩
  case round =>
    obtain ⟨j, s, z, hj, rfl, rfl, hs, HF, rfl⟩ := hrel
    by_cases hlt : j < n
    · obtain ⟨tb, to, B, d, rfl, hbl, h0, h1, h2, h3, _⟩ := HL.out.2 j hlt
      have HF := Lib.hid (fine_snoc l j (by rw [HLen.out]; exact hlt) HF.out)
      generalize l.getD j (0, 0, 0, []) = q at h0 h1 h2 h3 HF
      obtain ⟨K, dd, x, xs⟩ := q
      unfold Fine at HF
      simp only at h0 h1 h2 h3 HF
      obtain ⟨m, hm⟩ : ∃ m, xs.length = m := ⟨_, rfl⟩
      rw [hm] at h3 HF
      clear hm h1
      by_cases hd : 4000 < m
      · have d1 : decide (4000 < m) = true := by simpa using hd
        have d1b : decide ((4000 : Int) < (m : Int)) = true := by simp; omega
        clear HF
        go_wp2
        go_ret
        exact ⟨false, z, rfl, rfl, fun e => by cases e⟩
      have d1 : decide (4000 < m) = false := by simpa using hd
      have d1b : decide ((4000 : Int) < (m : Int)) = false := by simp; omega
      by_cases hK : K = 4
      · have kf4 : (K == 4) = true := by rw [beq_iff_eq]; omega
        have kf1 : (K == 1) = false := by rw [beq_eq_false_iff_ne]; omega
        by_cases h20 : 20 < x
        · have d2 : decide ((20 : Int) < x) = true := by simp; omega
          clear HF hd hK
          go_wp2
          go_ret
          exact ⟨false, z, rfl, rfl, fun e => by cases e⟩
        have d2 : decide ((20 : Int) < x) = false := by simp; omega
        by_cases h0 : 0 < x
        · obtain ⟨x, rfl⟩ := Int.eq_ofNat_of_zero_le (Int.le_of_lt h0)
          obtain ⟨p, hp⟩ : ∃ p, x * m = p := ⟨_, rfl⟩
          have hpb : p ≤ 80000 := by rw [← hp]; exact Nat.le_trans (Nat.mul_le_mul (by omega : x ≤ 20) (by omega : m ≤ 4000)) (by decide)
          have w1 : IntKind.i64.wrap ((x : Int) * (m : Int)) = (p : Int) := by rw [← Int.natCast_mul, hp]; exact IntWalk.i64_in _ (by omega)
          have w1' : (x : Int) * (m : Int) = (p : Int) := by rw [← Int.natCast_mul, hp]
          have d3 : decide ((0 : Int) < (x : Int)) = true := by simp; omega
          have d3' : decide (0 < x) = true := by simp; omega
          have d2' : decide (20 < x) = false := by simp; omega
          have HF2 := Lib.hid (HF.out (by refine ⟨by omega, ?_, ?_⟩ <;> (try simp only) <;> intro e <;> omega))
          have hm4 : m ≤ 4000 := by omega
          clear hd hK
          go_wp2
          go_quiet (fail)
          go_wp2
          exact ⟨⟨j + 1, s + m + p, _, by omega, by go_num, by go_num, by omega, HF2, rfl⟩, by simp [intOf]; omega⟩
        · have d3 : decide ((0 : Int) < x) = false := by simp; omega
          have HF2 := Lib.hid (HF.out (by refine ⟨by omega, ?_, ?_⟩ <;> (try simp only) <;> intro e <;> omega))
          have hm4 : m ≤ 4000 := by omega
          clear hd hK
          go_wp2
          exact ⟨⟨j + 1, s + m, _, by omega, by go_num, by go_num, by omega, HF2, rfl⟩, by simp [intOf]; omega⟩
      by_cases hK1 : K = 1
      · have kf4 : (K == 4) = false := by rw [beq_eq_false_iff_ne]; omega
        have kf1 : (K == 1) = true := by rw [beq_iff_eq]; omega
        by_cases h20 : 40000 < x
        · have d2 : decide ((40000 : Int) < x) = true := by simp; omega
          have d4 : decide (x ≤ (40000 : Int)) = false := by simp; omega
          have d3 : decide ((0 : Int) < x) = true := by simp; omega
          by_cases h21 : x ≤ 1048576
          · have d5 : decide (x ≤ (1048576 : Int)) = true := by simp; omega
            clear HF hd hK
            go_wp2
            go_ret
            exact ⟨false, z, rfl, rfl, fun e => by cases e⟩
          · have d5 : decide (x ≤ (1048576 : Int)) = false := by simp; omega
            have HF2 := Lib.hid (HF.out (by refine ⟨by omega, ?_, ?_⟩ <;> (try simp only) <;> intro e <;> omega))
            have hm4 : m ≤ 4000 := by omega
            clear hd hK
            go_wp2
            exact ⟨⟨j + 1, s + m, _, by omega, by go_num, by go_num, by omega, HF2, rfl⟩, by simp [intOf]; omega⟩
        have d2 : decide ((40000 : Int) < x) = false := by simp; omega
        have d4 : decide (x ≤ (40000 : Int)) = true := by simp; omega
        by_cases h0 : 0 < x
        · obtain ⟨x, rfl⟩ := Int.eq_ofNat_of_zero_le (Int.le_of_lt h0)
          have d3 : decide ((0 : Int) < (x : Int)) = true := by simp; omega
          have d3' : decide (0 < x) = true := by simp; omega
          have d2' : decide (40000 < x) = false := by simp; omega
          have d4' : decide (x ≤ 40000) = true := by simp; omega
          have HF2 := Lib.hid (HF.out (by refine ⟨by omega, ?_, ?_⟩ <;> (try simp only) <;> intro e <;> omega))
          have hm4 : m ≤ 4000 := by omega
          clear hd hK
          go_wp2
          exact ⟨⟨j + 1, s + m + x, _, by omega, by go_num, by go_num, by omega, HF2, rfl⟩, by simp [intOf]; omega⟩
        · have d3 : decide ((0 : Int) < x) = false := by simp; omega
          have HF2 := Lib.hid (HF.out (by refine ⟨by omega, ?_, ?_⟩ <;> (try simp only) <;> intro e <;> omega))
          have hm4 : m ≤ 4000 := by omega
          clear hd hK
          go_wp2
          exact ⟨⟨j + 1, s + m, _, by omega, by go_num, by go_num, by omega, HF2, rfl⟩, by simp [intOf]; omega⟩
      have kf4 : (K == 4) = false := by rw [beq_eq_false_iff_ne]; omega
      have kf1 : (K == 1) = false := by rw [beq_eq_false_iff_ne]; omega
      have HF2 := Lib.hid (HF.out (by refine ⟨by omega, ?_, ?_⟩ <;> (try simp only) <;> intro e <;> omega))
      have hm4 : m ≤ 4000 := by omega
      clear hd hK
      go_wp2
      exact ⟨⟨j + 1, s + m, _, by omega, by go_num, by go_num, by omega, HF2, rfl⟩, by simp [intOf]; omega⟩
    · obtain rfl : j = n := by omega
      by_cases hb : s ≤ 200000
      · have e1 : decide (s ≤ 200000) = true := by simpa using hb
        have e1' : decide ((s : Int) ≤ 200000) = true := by simp; omega
        go_wp2
        go_ret
        refine ⟨true, z, rfl, rfl, fun _ => ⟨by omega, ?_⟩⟩
        have := HF.out
        rw [List.take_of_length_le (by rw [HLen.out]; exact Nat.le_refl _)] at this
        exact this
      · have e1 : decide (s ≤ 200000) = false := by simpa using hb
        have e1' : decide ((s : Int) ≤ 200000) = false := by simp; omega
        go_wp2
        go_ret
        exact ⟨false, z, rfl, rfl, fun e => by cases e⟩
end Go.Proofs.Ytphphejabgjnjaa
