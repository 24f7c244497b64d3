/- Steps that are run, whatever they throw. -/
import Derived.Test.YtmmckhkiclifjaaW10
namespace Go.Proofs.Ytmmckhkiclifjaa
open Go.RowKit

theorem runL_at0 {p : Int × Int} (r : List (Int × Int)) (n : Int) (h : p.1 = 0) : runL (p :: r) n = runL r (n + 1) := by rw [runL, if_pos h]
theorem runL_at1 {p : Int × Int} (r : List (Int × Int)) (n : Int) (h : p.1 = 1) : runL (p :: r) n = (n, some p.2) := by rw [runL, if_neg (by omega), if_pos h]
theorem runL_at3 {p : Int × Int} (r : List (Int × Int)) (n : Int) (h : p.1 = 3) : runL (p :: r) n = runL (r.drop (endL r 0 + 1)) (bump (runL (r.take (endL r 0)) n)) := by rw [runL, if_neg (by omega), if_neg (by omega), if_pos h]
theorem runL_at {p : Int × Int} (r : List (Int × Int)) (n : Int) (h0 : ¬ p.1 = 0) (h1 : ¬ p.1 = 1) (h3 : ¬ p.1 = 3) : runL (p :: r) n = runL r n := by rw [runL, if_neg h0, if_neg h1, if_neg h3]
theorem run_end (w w' : World) (g : Nat) (x : Int) (h : Cnt (w.alloc (.cells #[.pointer (some ⟨g, 0, none⟩)] 30)) g x w') : Cnt w g x w' := ⟨((Alone.refl w g).alloc _).trans h.1, h.2⟩
def BoxP (w : World) (g : Nat) (wr : World) (x : Int) : Prop := Cnt (w.alloc (.cells #[.pointer (some ⟨g, 0, none⟩)] 30)) g x wr ∧ Whole wr w.heap.size 30 #[.pointer (some ⟨g, 0, none⟩)]
theorem BoxP.next {w wr w' : World} {g : Nat} {x y : Int} (h : BoxP w g wr x) (hg : g < w.heap.size) (k : Cnt wr g y w') : BoxP w g w' y := ⟨⟨h.1.1.trans k.1, k.2⟩, k.1.whole h.2 (by omega)⟩
theorem BoxP.put {w wr : World} {g : Nat} {x : Int} (h : BoxP w g wr x) (hg : g < w.heap.size) (y : Int) : BoxP w g (wr.setCell ⟨g, 0, none⟩ (.int .i64 y)) y := h.next hg ⟨(Alone.refl wr g).put 0 _, h.1.2.put 0 _ rfl⟩
/-- The loop's relation. -/
def RunRel (w : World) (g n : Nat) (x : Int) (l : List (Int × Int)) (i : Value) (wr : World) : Prop := ∃ (j : Nat) (y : Int), j ≤ n + 1 ∧ 0 ≤ y ∧ x ≤ y ∧ y ≤ x + 1000 * j ∧ i = .int .i64 j ∧ Hid (runL l x = runL (l.drop j) y) ∧ Hid (BoxP w g wr y)
theorem RunRel.mk {w wr : World} {g n : Nat} {x : Int} {l : List (Int × Int)} {i : Value} (j : Nat) (y : Int) (h1 : j ≤ n + 1) (h2 : 0 ≤ y) (h3 : x ≤ y) (h4 : y ≤ x + 1000 * j) (h5 : i = .int .i64 j) (h6 : Hid (runL l x = runL (l.drop j) y)) (h7 : Hid (BoxP w g wr y)) : RunRel w g n x l i wr := ⟨j, y, h1, h2, h3, h4, h5, h6, h7⟩
set_option maxHeartbeats 2000000 in
theorem run_any (m : Nat) : ∀ (l : List (Int × Int)) (A : Option Addr) (n c g : Nat) (x : Int) (w : World), l.length ≤ m → Ps w (fun b => b ≠ g) A n l → n ≤ c → n ≤ 1000 → c ≤ 9223372036854775807 → (∀ p ∈ l, 1 ≤ p.2 ∧ p.2 ≤ 64) → Whole w g 3 #[.int .i64 x] → 0 ≤ x → x + 1000 * l.length ≤ 1000000000 →
    Calls Try.prog 12 #[.slice A n c, .pointer (some ⟨g, 0, none⟩)] w (RunP w g (runL l x)) := by
  induction m with
  | zero =>
    intro l A n c g x w hl hL hnc hn hc hp hW hx0 hx1
    obtain rfl : l = [] := List.eq_nil_of_length_eq_zero (by omega)
    obtain rfl : n = 0 := by have := hL.len; simpa using this.symm
    have HW := Lib.hid hW
    clear hL hp hW
    go_enter Try.func12, Try.ntmps12
    go_wp2
    go_loopw [4, 5, 6] (fun i e b wr => i = .int .i64 0 ∧ wr = w.alloc (.cells #[.pointer (some ⟨g, 0, none⟩)] 30)) (fun _ _ _ _ => 0)
    case atStart => exact ⟨rfl, rfl⟩
    case round =>
      obtain ⟨rfl, rfl⟩ := hrel
      go_wp2
      go_end0
      rw [runL_nil]
      exact ⟨rfl, run_end _ _ _ _ ⟨Alone.refl _ _, HW.out.alloc _⟩⟩
  | succ m ih =>
    intro l A n c g x w hl hL hnc hn hc hp hW hx0 hx1
    have hg := hW.lt
    have hlen := hL.len
    have B0 := Lib.hid (show BoxP w g (w.alloc (.cells #[.pointer (some ⟨g, 0, none⟩)] 30)) x from ⟨⟨Alone.refl _ _, hW.alloc _⟩, Whole.new w 30 _ rfl⟩)
    have HL := Lib.hid (hL.alloc (.cells #[.pointer (some ⟨g, 0, none⟩)] 30))
    have IH := Lib.hid ih
    have HP := Lib.hid hp
    clear hL hW ih hp
    go_enter Try.func12, Try.ntmps12
    go_wp2
    go_loopw [4, 5, 6] (fun i e b wr => RunRel w g n x l i wr) (fun i _ _ _ => n + 1 - (intOf i).toNat)
    case atStart => exact RunRel.mk 0 x (by omega) hx0 (by omega) (by omega) rfl rfl B0.out
    case round =>
      obtain ⟨j, y, hj, hy, hxy, hyj, rfl, hE, hB⟩ := hrel
      have b0 := hB.out.2.cell 0
      have f0 := hB.out.2.free 0
      have b1 := hB.out.1.2.cell 0
      have f1 := hB.out.1.2.free 0
      by_cases hlt : j < n
      · have hLr := HL.out.alone hB.out.1.1
        obtain ⟨b, off, hA, hb, hS, hc0, hc1⟩ := hLr.at_ hlt
        have HLr := Lib.hid hLr
        clear hLr
        have hE' := hE.out
        rw [drop_at (j := j) (by rw [hlen]; exact hlt)] at hE'
        have hel := endL_le (l.drop (j + 1)) 0
        rw [List.length_drop, hlen] at hel
        generalize hpj : l.getD j (0, 0) = p at hc0 hc1 hE'
        have hpc : 1 ≤ p.2 ∧ p.2 ≤ 64 := HP.out p (by rw [← hpj, List.getD_eq_getElem?_getD, List.getElem?_eq_getElem (by omega)]; simp)
        clear hpj
        by_cases h0 : p.1 = 0
        · rw [runL_at0 _ _ h0] at hE'
          have HE := Lib.hid hE'
          have HB := Lib.hid (hB.out.put hg (y + 1))
          rw [h0] at hc0
          clear hE hE' hc1 h0 hel hB
          go_wp2
          exact ⟨RunRel.mk (j + 1) (y + 1) (by omega) (by omega) (by omega) (by omega) (by go_num) HE HB, by simp [intOf]; omega⟩
        by_cases h1 : p.1 = 1
        · rw [runL_at1 _ _ h1] at hE'
          have HE := Lib.hid hE'
          rw [h1] at hc0
          clear hE hE' h0 h1 hel
          go_wp2_with fail
          refine (throw_any p.2 wr).mono ?_
          rintro e w1 ⟨rfl, rfl⟩
          go_wp2
          simp [bodyPost]
          rw [HE.out]
          exact ⟨rfl, run_end _ _ _ _ hB.out.1⟩
        by_cases h3 : p.1 = 3
        · rw [runL_at3 _ _ h3] at hE'
          rw [h3] at hc0
          have hend := end_any A n c l (j + 1) wr _ HLr.out (by omega) hn
          rw [show ((j + 1 : Nat) : Int) = (j : Int) + 1 by omega] at hend
          have HEnd := Lib.hid hend
          clear hend hE h0 h1 h3 hc1 hpc
          generalize endL (l.drop (j + 1)) 0 = q at hE' hel HEnd
          rw [List.drop_drop] at hE'
          have htl : ((l.drop (j + 1)).take q).length = q := by simp; omega
          have hbd := runL_bounds _ ((l.drop (j + 1)).take q) y (Nat.le_refl _)
          have htp : ∀ p ∈ (l.drop (j + 1)).take q, 1 ≤ p.2 ∧ p.2 ≤ 64 := fun p hp => HP.out p (List.mem_of_mem_drop (List.mem_of_mem_take hp))
          have hcd := fun m' c' => runL_code ((l.drop (j + 1)).take q).length ((l.drop (j + 1)).take q) y m' c' (Nat.le_refl _) htp
          have HI := fun (A' : Option Addr) (c' : Nat) (w0 : World) (h1 : Ps w0 (fun b => b ≠ g) A' q ((l.drop (j + 1)).take q)) (h2 : q ≤ c') (h3 : c' ≤ 9223372036854775807) (h4 : Whole w0 g 3 #[.int .i64 y]) =>
            IH.out ((l.drop (j + 1)).take q) A' q c' g y w0 (by omega) h1 h2 (by omega) h3 htp h4 hy (by rw [htl]; omega)
          have hQ : Ps wr (fun b => b ≠ g) (some ⟨b, off + (j + 1) * 2, none⟩) q ((l.drop (j + 1)).take q) := by
            have := HLr.out
            rw [hA] at this
            exact this.cut (i := j + 1) (k := q) (by omega)
          rw [htl] at hbd
          generalize (l.drop (j + 1)).take q = tk at hE' hbd hcd HI hQ
          generalize runL tk y = P at hE' hbd hcd HI
          have HE := Lib.hid hE'
          clear hE' htl htp
          have HK : Hid (∀ (A' : Option Addr) (c' : Nat), Ps wr (fun b => b ≠ g) A' q tk → q ≤ c' → c' ≤ 9223372036854775807 →
              Calls Try.prog 10 #[.func (.func 32) #[] #[.pointer (some ⟨wr.heap.size, 0, none⟩), .pointer (some ⟨w.heap.size, 0, none⟩)]] (wr.alloc (.cells #[.slice A' q c'] 22)) (CatchC (wr.alloc (.cells #[.slice A' q c'] 22)) g P)) := Lib.hid fun A' c' h1 h2 h3 =>
            catch32 _ g P _ (by have := hB.out.1.2.lt; simp; omega) (call_any 32 _ P.2 _ (Cnt _ g P.1) (fun _ => by kernel_rfl) (clo32 _ _ _ _ _ P.2 (Cnt _ g P.1) ((Whole.new wr 22 _ rfl).alloc _) ((hB.out.2.alloc _).alloc _) (HI A' c' _ ((h1.alloc _).alloc _) h2 h3 ((hB.out.1.2.alloc _).alloc _))))
          have hps : ∀ A' : Option Addr, q = 0 → Ps wr (fun b => b ≠ g) A' q tk := fun A' h0 => by
            subst h0
            have := hQ.len
            obtain rfl : tk = [] := List.eq_nil_of_length_eq_zero this
            exact Ps.empty _ _ _
          have HQ := Lib.hid hQ
          have HPS := Lib.hid hps
          clear hQ hps HI
          subst hA
          go_wp2_with fail
          refine HEnd.out.mono ?_
          rintro e w1 ⟨rfl, rfl⟩
          have hnx : ∀ (A' : Option Addr) (c' : Nat) (w2 : World), Cnt (wr.alloc (.cells #[.slice A' q c'] 22)) g P.1 w2 → BoxP w g w2 P.1 := fun A' c' w2 h => hB.out.next hg ⟨((Alone.refl wr g).alloc _).trans h.1, h.2⟩
          have HN := Lib.hid hnx
          clear hnx
          go_wp2_with fail
          all_goals
            first
              | refine (HK.out _ _ HQ.out (by omega) (by omega)).mono ?_
              | refine (HK.out _ _ (HPS.out _ (by omega)) (by omega) (by omega)).mono ?_
            rintro e w2 ⟨rfl, hC⟩
            have HB2 := Lib.hid (HN.out _ _ _ hC)
            clear hC HN HK HQ HPS HEnd b0 b1 f0 f1 hc0
            obtain ⟨z, o⟩ := P
            have b0 := HB2.out.2.cell 0
            have f0 := HB2.out.2.free 0
            have b1 := HB2.out.1.2.cell 0
            have f1 := HB2.out.1.2.free 0
            cases o with
            | none =>
              simp only [bump] at HE hbd
              simp only [Option.getD]
              go_wp2
              refine ⟨RunRel.mk (j + 1 + q + 1) z ?_ ?_ ?_ ?_ ?_ (by rw [show j + 1 + q + 1 = j + 1 + (q + 1) by omega]; exact HE) HB2, by simp [intOf]; omega⟩
              all_goals first | omega | go_num
            | some c0 =>
              have hc00 : (c0 == 0) = false := by have := (hcd z c0 rfl).1; simp; omega
              simp only [bump] at HE hbd
              simp only [Option.getD]
              have HB3 := Lib.hid (HB2.out.put hg (z + 1000))
              clear HB2
              go_wp2
              refine ⟨RunRel.mk (j + 1 + q + 1) (z + 1000) ?_ ?_ ?_ ?_ ?_ (by rw [show j + 1 + q + 1 = j + 1 + (q + 1) by omega]; exact HE) HB3, by simp [intOf]; omega⟩
              all_goals first | omega | go_num
        · rw [runL_at _ _ h0 h1 h3] at hE'
          have HE := Lib.hid hE'
          have e0 : (p.1 == 0) = false := by simpa using h0
          have e1 : (p.1 == 1) = false := by simpa using h1
          have e3 : (p.1 == 3) = false := by simpa using h3
          clear hE hE' hc1 h0 h1 h3 hel
          go_wp2
          exact ⟨RunRel.mk (j + 1) y (by omega) (by omega) (by omega) (by omega) (by go_num) HE hB, by simp [intOf]; omega⟩
      · have hE' := hE.out
        rw [List.drop_eq_nil_of_le (i := j) (by omega), runL_nil] at hE'
        have HE := Lib.hid hE'
        clear hE hE'
        go_wp2
        go_end0
        rw [HE.out]
        exact ⟨rfl, run_end _ _ _ _ hB.out.1⟩
end Go.Proofs.Ytmmckhkiclifjaa
