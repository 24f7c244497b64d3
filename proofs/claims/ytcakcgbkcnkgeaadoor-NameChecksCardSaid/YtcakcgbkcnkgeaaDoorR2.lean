/- The page's UTF. -/
import Derived.Test.YtcakcgbkcnkgeaaDoorR1
import Derived.Test.YtcakcgbkcnkgeaaDoorBytes
import Derived.Test.YtcakcgbkcnkgeaaDoorC2
import Derived.Test.YtcakcgbkcnkgeaaDoorFree
namespace Go.Proofs.YtcakcgbkcnkgeaaDoor
open Go.RowKit

def UtfP (c : Int) (w : World) (e : Ending) (w' : World) : Prop := ∃ A' c', e = .returned (.slice A' (utfL c).length c') ∧ w'.ownsRow w.heap.size 5 1 (.slice A' (utfL c).length c') (utfL c).length ((utfL c).map bv) ∧ Below w.heap.size w w'
theorem own_new (w : World) (base : Nat) (e : TypeId) (size n : Nat) (cs : Array Value) (hb : base ≤ w.heap.size) (hs : cs.size = n * size) (hm : n ≤ maxLen) :
    (w.alloc (.cells cs e)).ownsRow base e size (.slice (some ⟨w.heap.size, 0, none⟩) n n) n cs.toList :=
  ⟨by simpa using hs, .inr ⟨w.heap.size, n, cs, rfl, hb, heap_alloc_new w _, Nat.le_refl _, hm, hs, by rw [List.take_of_length_le]; simp; omega⟩⟩
theorem utfP_none {c : Int} {w w' : World} {e : Ending} (h : utfL c = []) (he : e = .returned (.slice none 0 0)) (hw : w = w') : UtfP c w e w' := by
  subst he hw
  unfold UtfP
  rw [h]
  exact ⟨none, 0, rfl, World.ownsRow_nil _ _ _ _, Below.refl _ _⟩
theorem utfP_some {c : Int} {w w' : World} {e : Ending} {bs : List UInt8} (h : utfL c = bs) (hb : bs.length ≤ 4) (he : e = .returned (.slice (some ⟨w.heap.size, 0, none⟩) bs.length bs.length)) (hw : w' = w.alloc (.cells (bs.map bv).toArray 5)) : UtfP c w e w' := by
  subst he hw
  unfold UtfP
  rw [h]
  refine ⟨some ⟨w.heap.size, 0, none⟩, bs.length, rfl, ?_, (Below.refl _ _).alloc (Nat.le_refl _) _⟩
  have := own_new w w.heap.size 5 1 bs.length (bs.map bv).toArray (Nat.le_refl _) (by simp) (by unfold maxLen; omega)
  simpa using this
theorem bv_of (x : Nat) (h : x < 256) : bv (UInt8.ofNat x) = .int .u8 (x : Int) := by
  unfold bv
  rw [UInt8.toNat_ofNat', Nat.mod_eq_of_lt h]
theorem bv_at (x : Nat) (y : Int) (h : x < 256) (e : (x : Int) = y) : bv (UInt8.ofNat x) = .int .u8 y := by
  rw [bv_of x h, e]
set_option maxHeartbeats 2000000 in
theorem utf_any (c : Int) (w : World) : Calls Tryd.prog 15 #[.int .i64 c] w (UtfP c w) := by
  by_cases h1 : c < 0
  · have HX : Hid (utfL c = []) := Lib.hid (by unfold utfL; rw [if_pos h1])
    have d1 : decide (c < 0) = true := by simpa using h1
    go_enter Tryd.func15, Tryd.ntmps15
    go_wp2
    go_ret
    exact utfP_none HX.out rfl rfl
  obtain ⟨n, rfl⟩ : ∃ n : Nat, c = n := ⟨c.toNat, by omega⟩
  have hu : utfL (n : Int) = utfN n := by unfold utfL; rw [if_neg h1]; rfl
  have d1 : decide ((n : Int) < 0) = false := by simp
  by_cases h2 : 1114111 < n
  · have HX : Hid (utfL (n : Int) = []) := Lib.hid (by rw [hu]; unfold utfN; rw [if_pos (.inl h2)])
    have d2 : decide ((1114111 : Int) < (n : Int)) = true := by simp; omega
    have d2' : decide (1114111 < n) = true := by simp; omega
    clear hu
    go_enter Tryd.func15, Tryd.ntmps15
    go_wp2
    go_ret
    exact utfP_none HX.out rfl rfl
  have d2 : decide ((1114111 : Int) < (n : Int)) = false := by simp; omega
  have d2' : decide (1114111 < n) = false := by simp; omega
  by_cases h3 : 55296 ≤ n ∧ n ≤ 57343
  · have HX : Hid (utfL (n : Int) = []) := Lib.hid (by rw [hu]; unfold utfN; rw [if_pos (.inr h3)])
    have d3 : decide ((55296 : Int) ≤ (n : Int)) = true := by simp; omega
    have d3' : decide (55296 ≤ n) = true := by simp; omega
    have d4 : decide ((n : Int) ≤ 57343) = true := by simp; omega
    have d4' : decide (n ≤ 57343) = true := by simp; omega
    clear hu h3
    go_enter Tryd.func15, Tryd.ntmps15
    go_wp2
    go_ret
    exact utfP_none HX.out rfl rfl
  have h0 : ¬ (1114111 < n ∨ (55296 ≤ n ∧ n ≤ 57343)) := by omega
  by_cases g3 : 55296 ≤ n
  · have g3' : 57343 < n := by omega
    have d3 : decide ((55296 : Int) ≤ (n : Int)) = true := by simp; omega
    have d3' : decide (55296 ≤ n) = true := by simp; omega
    have d4 : decide ((n : Int) ≤ 57343) = false := by simp; omega
    have d4' : decide (n ≤ 57343) = false := by simp; omega
    have k1 : ¬ n < 128 := by omega
    have k2 : ¬ n < 2048 := by omega
    by_cases k3 : n < 65536
    · have HX : Hid (utfL (n : Int) = [UInt8.ofNat (224 + n / 4096), UInt8.ofNat (128 + n / 64 % 64), UInt8.ofNat (128 + n % 64)]) := Lib.hid (by rw [hu]; unfold utfN; rw [if_neg h0, if_neg k1, if_neg k2, if_pos k3])
      have v1 : Hid (bv (UInt8.ofNat (224 + n / 4096)) = .int .u8 (224 + (n : Int) / 4096)) := Lib.hid (bv_at _ _ (by omega) (by omega))
      have v2 : Hid (bv (UInt8.ofNat (128 + n / 64 % 64)) = .int .u8 (128 + (n : Int) / 64 % 64)) := Lib.hid (bv_at _ _ (by omega) (by omega))
      have v3 : Hid (bv (UInt8.ofNat (128 + n % 64)) = .int .u8 (128 + (n : Int) % 64)) := Lib.hid (bv_at _ _ (by omega) (by omega))
      have e1 : decide ((n : Int) < 128) = false := by simp; omega
      have e1' : decide (n < 128) = false := by simp; omega
      have e2 : decide ((n : Int) < 2048) = false := by simp; omega
      have e2' : decide (n < 2048) = false := by simp; omega
      have e3 : decide ((n : Int) < 65536) = true := by simp; omega
      have e3' : decide (n < 65536) = true := by simp; omega
      clear hu h3 h0
      go_enter Tryd.func15, Tryd.ntmps15
      go_wp2
      all_goals
        go_ret
        refine utfP_some HX.out (by simp) rfl ?_
        simp only [List.map_cons, List.map_nil, v1.out, v2.out, v3.out]
    · have HX : Hid (utfL (n : Int) = [UInt8.ofNat (240 + n / 262144), UInt8.ofNat (128 + n / 4096 % 64), UInt8.ofNat (128 + n / 64 % 64), UInt8.ofNat (128 + n % 64)]) := Lib.hid (by rw [hu]; unfold utfN; rw [if_neg h0, if_neg k1, if_neg k2, if_neg k3])
      have v1 : Hid (bv (UInt8.ofNat (240 + n / 262144)) = .int .u8 (240 + (n : Int) / 262144)) := Lib.hid (bv_at _ _ (by omega) (by omega))
      have v2 : Hid (bv (UInt8.ofNat (128 + n / 4096 % 64)) = .int .u8 (128 + (n : Int) / 4096 % 64)) := Lib.hid (bv_at _ _ (by omega) (by omega))
      have v3 : Hid (bv (UInt8.ofNat (128 + n / 64 % 64)) = .int .u8 (128 + (n : Int) / 64 % 64)) := Lib.hid (bv_at _ _ (by omega) (by omega))
      have v4 : Hid (bv (UInt8.ofNat (128 + n % 64)) = .int .u8 (128 + (n : Int) % 64)) := Lib.hid (bv_at _ _ (by omega) (by omega))
      have e1 : decide ((n : Int) < 128) = false := by simp; omega
      have e1' : decide (n < 128) = false := by simp; omega
      have e2 : decide ((n : Int) < 2048) = false := by simp; omega
      have e2' : decide (n < 2048) = false := by simp; omega
      have e3 : decide ((n : Int) < 65536) = false := by simp; omega
      have e3' : decide (n < 65536) = false := by simp; omega
      clear hu h3 h0
      go_enter Tryd.func15, Tryd.ntmps15
      go_wp2
      all_goals
        go_ret
        refine utfP_some HX.out (by simp) rfl ?_
        simp only [List.map_cons, List.map_nil, v1.out, v2.out, v3.out, v4.out]
  have d3 : decide ((55296 : Int) ≤ (n : Int)) = false := by simp; omega
  have d3' : decide (55296 ≤ n) = false := by simp; omega
  by_cases k1 : n < 128
  · have HX : Hid (utfL (n : Int) = [UInt8.ofNat (n)]) := Lib.hid (by rw [hu]; unfold utfN; rw [if_neg h0, if_pos k1])
    have v1 : Hid (bv (UInt8.ofNat (n)) = .int .u8 ((n : Int))) := Lib.hid (bv_at _ _ (by omega) (by omega))
    have e1 : decide ((n : Int) < 128) = true := by simp; omega
    have e1' : decide (n < 128) = true := by simp; omega
    clear hu h3 h0
    go_enter Tryd.func15, Tryd.ntmps15
    go_wp2
    all_goals
      go_ret
      refine utfP_some HX.out (by simp) rfl ?_
      simp only [List.map_cons, List.map_nil, v1.out]
  by_cases k2 : n < 2048
  · have HX : Hid (utfL (n : Int) = [UInt8.ofNat (192 + n / 64), UInt8.ofNat (128 + n % 64)]) := Lib.hid (by rw [hu]; unfold utfN; rw [if_neg h0, if_neg k1, if_pos k2])
    have v1 : Hid (bv (UInt8.ofNat (192 + n / 64)) = .int .u8 (192 + (n : Int) / 64)) := Lib.hid (bv_at _ _ (by omega) (by omega))
    have v2 : Hid (bv (UInt8.ofNat (128 + n % 64)) = .int .u8 (128 + (n : Int) % 64)) := Lib.hid (bv_at _ _ (by omega) (by omega))
    have e1 : decide ((n : Int) < 128) = false := by simp; omega
    have e1' : decide (n < 128) = false := by simp; omega
    have e2 : decide ((n : Int) < 2048) = true := by simp; omega
    have e2' : decide (n < 2048) = true := by simp; omega
    clear hu h3 h0
    go_enter Tryd.func15, Tryd.ntmps15
    go_wp2
    all_goals
      go_ret
      refine utfP_some HX.out (by simp) rfl ?_
      simp only [List.map_cons, List.map_nil, v1.out, v2.out]
  have k3 : n < 65536 := by omega
  have HX : Hid (utfL (n : Int) = [UInt8.ofNat (224 + n / 4096), UInt8.ofNat (128 + n / 64 % 64), UInt8.ofNat (128 + n % 64)]) := Lib.hid (by rw [hu]; unfold utfN; rw [if_neg h0, if_neg k1, if_neg k2, if_pos k3])
  have v1 : Hid (bv (UInt8.ofNat (224 + n / 4096)) = .int .u8 (224 + (n : Int) / 4096)) := Lib.hid (bv_at _ _ (by omega) (by omega))
  have v2 : Hid (bv (UInt8.ofNat (128 + n / 64 % 64)) = .int .u8 (128 + (n : Int) / 64 % 64)) := Lib.hid (bv_at _ _ (by omega) (by omega))
  have v3 : Hid (bv (UInt8.ofNat (128 + n % 64)) = .int .u8 (128 + (n : Int) % 64)) := Lib.hid (bv_at _ _ (by omega) (by omega))
  have e1 : decide ((n : Int) < 128) = false := by simp; omega
  have e1' : decide (n < 128) = false := by simp; omega
  have e2 : decide ((n : Int) < 2048) = false := by simp; omega
  have e2' : decide (n < 2048) = false := by simp; omega
  have e3 : decide ((n : Int) < 65536) = true := by simp; omega
  have e3' : decide (n < 65536) = true := by simp; omega
  clear hu h3 h0
  go_enter Tryd.func15, Tryd.ntmps15
  go_wp2
  all_goals
    go_ret
    refine utfP_some HX.out (by simp) rfl ?_
    simp only [List.map_cons, List.map_nil, v1.out, v2.out, v3.out]
end Go.Proofs.YtcakcgbkcnkgeaaDoor
