/- An entry as an argument. -/
import Derived.ProofKit
import Derived.OpenShut
import Derived.Deep.Fields
import Derived.Test.YtdmglpnieiiigaaDoorProg
import Derived.Test.YtdmglpnieiiigaaDoorShapes
namespace Go.Proofs.YtdmglpnieiiigaaDoor
open Go.ChangeShapes Go.WideShapes Go.ChangeAt Go.RowKit Go.Deep
open Go.ChangeMaps (open_string)

set_option maxRecDepth 100000 in
theorem fourteen {cs : Array Value} (h : cs.size = 14) : ∃ a0 a1 a2 a3 a4 a5 a6 a7 a8 a9 a10 a11 a12 a13, cs = #[a0, a1, a2, a3, a4, a5, a6, a7, a8, a9, a10, a11, a12, a13] := by
  obtain ⟨l⟩ := cs
  simp only [List.size_toArray] at h
  rcases l with _ | ⟨a0, _ | ⟨a1, _ | ⟨a2, _ | ⟨a3, _ | ⟨a4, _ | ⟨a5, _ | ⟨a6, _ | ⟨a7, _ | ⟨a8, _ | ⟨a9, _ | ⟨a10, _ | ⟨a11, _ | ⟨a12, _ | ⟨a13, _ | ⟨b, l⟩⟩⟩⟩⟩⟩⟩⟩⟩⟩⟩⟩⟩⟩⟩
  · simp at h
  · simp at h
  · simp at h
  · simp at h
  · simp at h
  · simp at h
  · simp at h
  · simp at h
  · simp at h
  · simp at h
  · simp at h
  · simp at h
  · simp at h
  · simp at h
  · exact ⟨a0, a1, a2, a3, a4, a5, a6, a7, a8, a9, a10, a11, a12, a13, rfl⟩
  · simp at h
section
variable {H : Type} {enc : TypeId × Value → H} {w : World} {base : Nat} {spare : Nat → Bool} {held : Bool}
theorem one_int {k : IntKind} {fuel : Nat} {t : TypeId} {a : Value} {x} (ht : Tryd.prog.underlying t = some (.int k)) (h : DataW.trod enc Tryd.prog w base spare held fuel t [a] = some x) : ∃ n, a = .int k n ∧ (Lit.int k n).wf = true := by
  obtain ⟨n, h1, _, h2⟩ := DataW.trod_int ht h
  exact ⟨n, by simpa using h1, h2⟩
theorem one_bool {fuel : Nat} {t : TypeId} {a : Value} {x} (ht : Tryd.prog.underlying t = some .bool) (h : DataW.trod enc Tryd.prog w base spare held fuel t [a] = some x) : ∃ b, a = .bool b := by
  obtain ⟨b, h1, _⟩ := DataW.trod_bool ht h
  exact ⟨b, by simpa using h1⟩
theorem one_str {fuel : Nat} {t : TypeId} {a : Value} {x} (ht : Tryd.prog.underlying t = some .string) (h : DataW.trod enc Tryd.prog w base spare held fuel t [a] = some x) : ∃ s, a = .string s ∧ s.size ≤ maxLen := by
  obtain ⟨s, h1, _, h2⟩ := DataW.trod_string ht h
  exact ⟨s, by simpa using h1, h2⟩
set_option maxRecDepth 100000 in
set_option maxHeartbeats 4000000 in
theorem open_entry {r : Reach} {b0 : Nat} {v : Value} {dd : DataW H} {q : List MemPlace} (hv : Value.okWide Tryd.prog w r b0 28 v) (h : DataW.Trod enc Tryd.prog w base spare held 28 v dd q) :
    ∃ (s : ByteArray) (y mo d h mi se me : Int) (c : Nat) (p z : Int) (wd lt : Bool) (pl : Int), v = .agg #[.string s, .int .i64 y, .int .i64 mo, .int .i64 d, .int .i64 h, .int .i64 mi, .int .i64 se, .int .i64 me, .int .u32 (c : Nat), .int .i64 p, .int .i64 z, .bool wd, .bool lt, .int .i64 pl] ∧ s.size ≤ maxLen ∧ c < 4294967296 := by
  have c28 : Tryd.prog.cellsOf 28 = 14 := by kernel_rfl
  have c26 : Tryd.prog.cellsOf 26 = 13 := by kernel_rfl
  have c9 : Tryd.prog.cellsOf 9 = 1 := by kernel_rfl
  have c23 : Tryd.prog.cellsOf 23 = 6 := by kernel_rfl
  have c3 : Tryd.prog.cellsOf 3 = 1 := by kernel_rfl
  have c24 : Tryd.prog.cellsOf 24 = 1 := by kernel_rfl
  have c4 : Tryd.prog.cellsOf 4 = 1 := by kernel_rfl
  obtain ⟨cs, rfl, hsz⟩ := okWide_struct Tryd.underlying28 hv
  rw [c28] at hsz
  obtain ⟨a0, a1, a2, a3, a4, a5, a6, a7, a8, a9, a10, a11, a12, a13, rfl⟩ := fourteen hsz
  obtain ⟨fuel, hf⟩ := h
  obtain ⟨xs, m0, hm0, hx, hxlen, hxl, hgx⟩ := DataW.trod_struct Tryd.underlying28 hf
  have hxl2 : xs.length = 2 := hxl
  have x0 := hgx 0 _ rfl
  rw [show xs[0]? = some (xs[0]'(by omega)) from List.getElem?_eq_getElem (by omega)] at x0
  have x1 := hgx 1 _ rfl
  rw [show xs[1]? = some (xs[1]'(by omega)) from List.getElem?_eq_getElem (by omega)] at x1
  simp only [Value.cells, c26, c3, List.drop_zero, List.drop_succ_cons, List.take_succ_cons, List.take_zero] at x0 x1
  obtain ⟨pl, rfl, _⟩ := one_int Tryd.underlying3 x1
  obtain ⟨ys, n', hn', hy, hlen, hyl, hg⟩ := DataW.trod_struct Tryd.underlying26 x0
  have hyl8 : ys.length = 8 := hyl
  have g0 := hg 0 { name := "Name", type := 9, offset := 0, embedded := false, tag := "", pkgPath := "", byteOffset := 0 } rfl
  rw [show ys[0]? = some (ys[0]'(by omega)) from List.getElem?_eq_getElem (by omega)] at g0
  have g1 := hg 1 { name := "Time", type := 23, offset := 1, embedded := false, tag := "", pkgPath := "", byteOffset := 16 } rfl
  rw [show ys[1]? = some (ys[1]'(by omega)) from List.getElem?_eq_getElem (by omega)] at g1
  have g2 := hg 2 { name := "Method", type := 3, offset := 7, embedded := false, tag := "", pkgPath := "", byteOffset := 64 } rfl
  rw [show ys[2]? = some (ys[2]'(by omega)) from List.getElem?_eq_getElem (by omega)] at g2
  have g3 := hg 3 { name := "CRC", type := 24, offset := 8, embedded := false, tag := "", pkgPath := "", byteOffset := 72 } rfl
  rw [show ys[3]? = some (ys[3]'(by omega)) from List.getElem?_eq_getElem (by omega)] at g3
  have g4 := hg 4 { name := "Packed", type := 3, offset := 9, embedded := false, tag := "", pkgPath := "", byteOffset := 80 } rfl
  rw [show ys[4]? = some (ys[4]'(by omega)) from List.getElem?_eq_getElem (by omega)] at g4
  have g5 := hg 5 { name := "Size", type := 3, offset := 10, embedded := false, tag := "", pkgPath := "", byteOffset := 88 } rfl
  rw [show ys[5]? = some (ys[5]'(by omega)) from List.getElem?_eq_getElem (by omega)] at g5
  have g6 := hg 6 { name := "Wide", type := 4, offset := 11, embedded := false, tag := "", pkgPath := "", byteOffset := 96 } rfl
  rw [show ys[6]? = some (ys[6]'(by omega)) from List.getElem?_eq_getElem (by omega)] at g6
  have g7 := hg 7 { name := "Later", type := 4, offset := 12, embedded := false, tag := "", pkgPath := "", byteOffset := 97 } rfl
  rw [show ys[7]? = some (ys[7]'(by omega)) from List.getElem?_eq_getElem (by omega)] at g7
  simp only [c9, c23, c3, c24, c4, List.drop_zero, List.drop_succ_cons, List.take_succ_cons, List.take_zero] at g0 g1 g2 g3 g4 g5 g6 g7
  obtain ⟨s, rfl, hs⟩ := one_str Tryd.underlying9 g0
  obtain ⟨me, rfl, _⟩ := one_int Tryd.underlying3 g2
  obtain ⟨c, rfl, hc⟩ := one_int Tryd.underlying24 g3
  obtain ⟨p, rfl, _⟩ := one_int Tryd.underlying3 g4
  obtain ⟨z, rfl, _⟩ := one_int Tryd.underlying3 g5
  obtain ⟨wd, rfl⟩ := one_bool Tryd.underlying4 g6
  obtain ⟨lt, rfl⟩ := one_bool Tryd.underlying4 g7
  obtain ⟨zs, m', hm', hz, hzlen, hzl, hgz⟩ := DataW.trod_struct Tryd.underlying23 g1
  have hzl6 : zs.length = 6 := hzl
  have t0 := hgz 0 { name := "Year", type := 3, offset := 0, embedded := false, tag := "", pkgPath := "", byteOffset := 0 } rfl
  rw [show zs[0]? = some (zs[0]'(by omega)) from List.getElem?_eq_getElem (by omega)] at t0
  have t1 := hgz 1 { name := "Month", type := 3, offset := 1, embedded := false, tag := "", pkgPath := "", byteOffset := 8 } rfl
  rw [show zs[1]? = some (zs[1]'(by omega)) from List.getElem?_eq_getElem (by omega)] at t1
  have t2 := hgz 2 { name := "Day", type := 3, offset := 2, embedded := false, tag := "", pkgPath := "", byteOffset := 16 } rfl
  rw [show zs[2]? = some (zs[2]'(by omega)) from List.getElem?_eq_getElem (by omega)] at t2
  have t3 := hgz 3 { name := "Hour", type := 3, offset := 3, embedded := false, tag := "", pkgPath := "", byteOffset := 24 } rfl
  rw [show zs[3]? = some (zs[3]'(by omega)) from List.getElem?_eq_getElem (by omega)] at t3
  have t4 := hgz 4 { name := "Minute", type := 3, offset := 4, embedded := false, tag := "", pkgPath := "", byteOffset := 32 } rfl
  rw [show zs[4]? = some (zs[4]'(by omega)) from List.getElem?_eq_getElem (by omega)] at t4
  have t5 := hgz 5 { name := "Sec", type := 3, offset := 5, embedded := false, tag := "", pkgPath := "", byteOffset := 40 } rfl
  rw [show zs[5]? = some (zs[5]'(by omega)) from List.getElem?_eq_getElem (by omega)] at t5
  simp only [c3, List.drop_zero, List.drop_succ_cons, List.take_succ_cons, List.take_zero] at t0 t1 t2 t3 t4 t5
  obtain ⟨y, rfl, _⟩ := one_int Tryd.underlying3 t0
  obtain ⟨mo, rfl, _⟩ := one_int Tryd.underlying3 t1
  obtain ⟨d, rfl, _⟩ := one_int Tryd.underlying3 t2
  obtain ⟨h, rfl, _⟩ := one_int Tryd.underlying3 t3
  obtain ⟨mi, rfl, _⟩ := one_int Tryd.underlying3 t4
  obtain ⟨se, rfl, _⟩ := one_int Tryd.underlying3 t5
  have hcb : 0 ≤ c ∧ c ≤ 4294967295 := by simpa [Lit.wf, IntKind.min, IntKind.max, IntKind.signed, IntKind.bits] using hc
  obtain ⟨k, rfl⟩ : ∃ k : Nat, c = k := ⟨c.toNat, by omega⟩
  exact ⟨s, y, mo, d, h, mi, se, me, k, p, z, wd, lt, pl, rfl, hs, by omega⟩
end
end Go.Proofs.YtdmglpnieiiigaaDoor
