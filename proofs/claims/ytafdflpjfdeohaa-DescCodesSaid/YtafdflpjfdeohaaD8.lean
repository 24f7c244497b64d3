/- A descriptor, as an argument. -/
import Derived.Test.YtafdflpjfdeohaaD7
import Derived.ProofKit
import Derived.OpenShut
namespace Go
open Go.ChangeShapes Go.WideShapes Go.ChangeAt Go.RowKit Go.Deep
section
variable {H : Type} {enc : TypeId × Value → H} {P : Program} {w : World} {base : Nat} {spare : Nat → Bool} {held : Bool}
theorem open_uiib {r : Reach} {b0 : Nat} {t u ub v0 : TypeId} {f0 f1 f2 f3 : Field} {v : Value} {d : DataW H} {p : List MemPlace} (hs : P.underlying t = some (.struct #[f0, f1, f2, f3])) (h0 : f0.offset = 0) (h1 : f1.offset = 1) (h2 : f2.offset = 2) (h3 : f3.offset = 3)
    (hu0 : f0.type = v0) (hu1 : f1.type = u) (hu2 : f2.type = u) (hu3 : f3.type = ub) (hu : P.underlying u = some (.int .i64)) (hv0 : P.underlying v0 = some (.int .u32)) (ho0 : P.cellsOf v0 = 1) (hub : P.underlying ub = some .bool) (ho : P.cellsOf u = 1) (hob : P.cellsOf ub = 1) (hC : P.cellsOf t = 4)
    (hv : Value.okWide P w r b0 t v) (h : DataW.Trod enc P w base spare held t v d p) :
    ∃ (x : Nat) (y z : Int) (b : Bool), x < 4294967296 ∧ v = .agg #[.int .u32 (x : Nat), .int .i64 y, .int .i64 z, .bool b] := by
  obtain ⟨cs, rfl, hsz⟩ := okWide_struct hs hv
  obtain ⟨fuel, hf⟩ := h
  obtain ⟨ys, n', hn', hy, hlen, hyl, hfd⟩ := DataW.trod_struct hs hf
  rw [hC] at hsz
  obtain ⟨l⟩ := cs
  match l, hsz with
  | [c0, c1, c2, c3], _ =>
    have g0 := hfd 0 f0 rfl
    have g1 := hfd 1 f1 rfl
    have g2 := hfd 2 f2 rfl
    have g3 := hfd 3 f3 rfl
    rw [h0, hu0, ho0] at g0
    rw [h1, hu1, ho] at g1
    rw [h2, hu2, ho] at g2
    rw [h3, hu3, hob] at g3
    have hxl : ys.length = 4 := by first | assumption | (simp at hyl; omega) | (simp at hlen; omega)
    rw [List.getElem?_eq_getElem (by omega)] at g0
    rw [List.getElem?_eq_getElem (by omega)] at g1
    rw [List.getElem?_eq_getElem (by omega)] at g2
    rw [List.getElem?_eq_getElem (by omega)] at g3
    obtain ⟨x, e0, _, wx⟩ := DataW.trod_int hv0 g0
    obtain ⟨y, e1, _, _⟩ := DataW.trod_int hu g1
    obtain ⟨z, e2, _, _⟩ := DataW.trod_int hu g2
    obtain ⟨b, e3, _⟩ := DataW.trod_bool hub g3
    simp [Value.cells] at e0 e1 e2 e3
    subst e0 e1 e2 e3
    have bx := bounds_u32 wx
    obtain ⟨x, rfl⟩ := Int.eq_ofNat_of_zero_le bx.1
    exact ⟨x, y, z, b, by omega, rfl⟩
end
end Go
namespace Go.Proofs.Ytafdflpjfdeohaa
open Go.RowKit
set_option maxHeartbeats 2000000 in
theorem encode_bad (c : Nat) (p s : Int) (wd : Bool) (w : World) (h : okD p s = false) : Calls Try.prog 7 #[.agg #[.int .u32 (c : Nat), .int .i64 p, .int .i64 s, .bool wd]] w fun e w' => e = .returned (.tuple #[.slice none 0 0, .int .i64 13]) ∧ Below w.heap.size w w' := by
  have HC : Hid (∀ w, Calls Try.prog 8 #[.agg #[.int .u32 (c : Nat), .int .i64 p, .int .i64 s, .bool wd]] w fun e w' => e = .returned (.int .i64 13) ∧ Below w.heap.size w w') := Lib.hid (fun w => by
    have := check_any c p s wd w
    rwa [h, if_neg (by simp)] at this)
  clear h
  go_enter Try.func7, Try.ntmps7
  go_wp2_with fail
  refine (HC.out _).mono ?_
  rintro e w1 ⟨rfl, hb1⟩
  have HB1 := Lib.hid (((Below.refl w.heap.size w).alloc (Nat.le_refl _) (.cells #[.int .u32 (c : Nat), .int .i64 p, .int .i64 s, .bool wd] 24)).trans (hb1.mono (by simp)))
  clear hb1
  go_wp2
  go_ret2
  exact ⟨rfl, HB1.out⟩
set_option maxHeartbeats 2000000 in
theorem back_bad (c : Nat) (p s : Int) (wd : Bool) (Aa : Option Addr) (l ca : Nat) (Az : Option Addr) (m cz : Nat) (W : World) (h : okD p s = false) : Calls Try.prog 4 #[.agg #[.int .u32 (c : Nat), .int .i64 p, .int .i64 s, .bool wd], .slice Aa l ca, .slice Az m cz] W fun e w' => e = .returned (.bool true) ∧ Below W.heap.size W w' := by
  have HE := Lib.hid (fun w => encode_bad c p s wd w h)
  clear h
  go_enter Try.func4, Try.ntmps4
  go_wp2_with fail
  obtain ⟨w0, hw0⟩ : ∃ w0, W.alloc (.cells #[.int .u32 (c : Nat), .int .i64 p, .int .i64 s, .bool wd] 24) = w0 := ⟨_, rfl⟩
  rw [hw0]
  have HW0 : Hid (Below W.heap.size W w0) := Lib.hid (hw0 ▸ (Below.refl _ _).alloc (Nat.le_refl _) _)
  have HR : Hid (Whole w0 W.heap.size 24 #[.int .u32 (c : Nat), .int .i64 p, .int .i64 s, .bool wd]) := Lib.hid (hw0 ▸ Whole.new W 24 _ rfl)
  clear hw0
  refine (awake_any w0).mono ?_
  rintro e w1 ⟨rfl, hb1⟩
  have HB1 : Hid (Below W.heap.size W w1) := Lib.hid (HW0.out.trans (hb1.mono HW0.out.size))
  have HR := Lib.hid (HR.out.below' hb1)
  have r0 := HR.out.cell 0
  have r1 := HR.out.cell 1
  have r2 := HR.out.cell 2
  have r3 := HR.out.cell 3
  simp at r0 r1 r2 r3
  clear hb1
  go_wp2_with fail
  refine (HE.out w1).mono ?_
  rintro e w2 ⟨rfl, hb2⟩
  have HB2 := Lib.hid (HB1.out.trans (hb2.mono HB1.out.size))
  clear hb2 r0 r1 r2 r3
  go_wp2
  go_ret
  exact ⟨rfl, HB2.out⟩
theorem back_law (c : Nat) (p s : Int) (wd : Bool) (Aa : Option Addr) (l ca : Nat) (ah : List UInt8) (Az : Option Addr) (m cz : Nat) (be : List UInt8) (W : World) (hc : c < 4294967296) (hA : Bs W (fun b => b < W.heap.size) Aa l ah) (hZ : Bs W (fun b => b < W.heap.size) Az m be) : Calls Try.prog 4 #[.agg #[.int .u32 (c : Nat), .int .i64 p, .int .i64 s, .bool wd], .slice Aa l ca, .slice Az m cz] W fun e w' => e = .returned (.bool true) ∧ Below W.heap.size W w' := by
  cases h : okD p s
  · exact back_bad c p s wd Aa l ca Az m cz W h
  · unfold okD at h
    simp at h
    obtain ⟨p, rfl⟩ := Int.eq_ofNat_of_zero_le (show 0 ≤ p by omega)
    obtain ⟨s, rfl⟩ := Int.eq_ofNat_of_zero_le (show 0 ≤ s by omega)
    cases wd
    · exact back_slim c p s Aa l ca ah Az m cz be W hc (by omega) (by omega) hA hZ
    · exact back_wide c p s Aa l ca ah Az m cz be W hc (by omega) (by omega) hA hZ
end Go.Proofs.Ytafdflpjfdeohaa
