/- Names, by the page. -/
import Derived.Test.YtdmglpnieiiigaaDoorP1
import Derived.Test.YtdmglpnieiiigaaDoorP2
import Derived.Test.YtdmglpnieiiigaaDoorC0
import Derived.Test.YtdmglpnieiiigaaDoorFree
namespace Go.Proofs.YtdmglpnieiiigaaDoor
open Go.RowKit

def UtfP (c : Int) (w : World) (e : Ending) (w' : World) : Prop := ∃ A' c', e = .returned (.slice A' (utfL c).length c') ∧ w'.ownsRow w.heap.size 5 1 (.slice A' (utfL c).length c') (utfL c).length ((utfL c).map bv) ∧ Below w.heap.size w w'
theorem own_new (w : World) (base : Nat) (e : TypeId) (size n : Nat) (cs : Array Value) (hb : base ≤ w.heap.size) (hs : cs.size = n * size) (hm : n ≤ maxLen) :
    (w.alloc (.cells cs e)).ownsRow base e size (.slice (some ⟨w.heap.size, 0, none⟩) n n) n cs.toList :=
  ⟨by simpa using hs, .inr ⟨w.heap.size, n, cs, rfl, hb, heap_alloc_new w _, Nat.le_refl _, hm, hs, by rw [List.take_of_length_le]; simp; omega⟩⟩
theorem utfP_none {c : Int} {w w' : World} {e : Ending} (h : utfL c = []) (he : e = .returned (.slice none 0 0)) (hw : w = w') : UtfP c w e w' := by
  subst he hw
  unfold UtfP
  rw [h]
  exact ⟨none, 0, rfl, World.ownsRow_nil _ _ _ _, Below.refl _ _⟩
theorem utfP_some {c : Int} {w w' : World} {e : Ending} {bs : List UInt8} (h : utfL c = bs) (hb : bs.length ≤ 4) (he : e = .returned (.slice (some ⟨w.heap.size, 0, none⟩) bs.length bs.length)) (hw : w' = w.alloc (.cells (bs.map bv).toArray 5)) : UtfP c w e w' := by
  subst he hw
  unfold UtfP
  rw [h]
  refine ⟨some ⟨w.heap.size, 0, none⟩, bs.length, rfl, ?_, (Below.refl _ _).alloc (Nat.le_refl _) _⟩
  have := own_new w w.heap.size 5 1 bs.length (bs.map bv).toArray (Nat.le_refl _) (by simp) (by unfold maxLen; omega)
  simpa using this
theorem bv_of (x : Nat) (h : x < 256) : bv (UInt8.ofNat x) = .int .u8 (x : Int) := by
  unfold bv
  rw [UInt8.toNat_ofNat', Nat.mod_eq_of_lt h]
theorem bv_at (x : Nat) (y : Int) (h : x < 256) (e : (x : Int) = y) : bv (UInt8.ofNat x) = .int .u8 y := by
  rw [bv_of x h, e]
set_option maxHeartbeats 2000000 in
theorem utf_any (c : Int) (w : World) : Calls Tryd.prog 68 #[.int .i64 c] w (UtfP c w) := by
  by_cases h1 : c < 0
  · have HX : Hid (utfL c = []) := Lib.hid (by unfold utfL; rw [if_pos h1])
    have d1 : decide (c < 0) = true := by simpa using h1
    go_enter Tryd.func68, Tryd.ntmps68
    go_wp2
    go_ret
    exact utfP_none HX.out rfl rfl
  obtain ⟨n, rfl⟩ : ∃ n : Nat, c = n := ⟨c.toNat, by omega⟩
  have hu : utfL (n : Int) = utfN n := by unfold utfL; rw [if_neg h1]; rfl
  have d1 : decide ((n : Int) < 0) = false := by simp
  by_cases h2 : 1114111 < n
  · have HX : Hid (utfL (n : Int) = []) := Lib.hid (by rw [hu]; unfold utfN; rw [if_pos (.inl h2)])
    have d2 : decide ((1114111 : Int) < (n : Int)) = true := by simp; omega
    have d2' : decide (1114111 < n) = true := by simp; omega
    clear hu
    go_enter Tryd.func68, Tryd.ntmps68
    go_wp2
    go_ret
    exact utfP_none HX.out rfl rfl
  have d2 : decide ((1114111 : Int) < (n : Int)) = false := by simp; omega
  have d2' : decide (1114111 < n) = false := by simp; omega
  by_cases h3 : 55296 ≤ n ∧ n ≤ 57343
  · have HX : Hid (utfL (n : Int) = []) := Lib.hid (by rw [hu]; unfold utfN; rw [if_pos (.inr h3)])
    have d3 : decide ((55296 : Int) ≤ (n : Int)) = true := by simp; omega
    have d3' : decide (55296 ≤ n) = true := by simp; omega
    have d4 : decide ((n : Int) ≤ 57343) = true := by simp; omega
    have d4' : decide (n ≤ 57343) = true := by simp; omega
    clear hu h3
    go_enter Tryd.func68, Tryd.ntmps68
    go_wp2
    go_ret
    exact utfP_none HX.out rfl rfl
  have h0 : ¬ (1114111 < n ∨ (55296 ≤ n ∧ n ≤ 57343)) := by omega
  by_cases g3 : 55296 ≤ n
  · have g3' : 57343 < n := by omega
    have d3 : decide ((55296 : Int) ≤ (n : Int)) = true := by simp; omega
    have d3' : decide (55296 ≤ n) = true := by simp; omega
    have d4 : decide ((n : Int) ≤ 57343) = false := by simp; omega
    have d4' : decide (n ≤ 57343) = false := by simp; omega
    have k1 : ¬ n < 128 := by omega
    have k2 : ¬ n < 2048 := by omega
    by_cases k3 : n < 65536
    · have HX : Hid (utfL (n : Int) = [UInt8.ofNat (224 + n / 4096), UInt8.ofNat (128 + n / 64 % 64), UInt8.ofNat (128 + n % 64)]) := Lib.hid (by rw [hu]; unfold utfN; rw [if_neg h0, if_neg k1, if_neg k2, if_pos k3])
      have v1 : Hid (bv (UInt8.ofNat (224 + n / 4096)) = .int .u8 (224 + (n : Int) / 4096)) := Lib.hid (bv_at _ _ (by omega) (by omega))
      have v2 : Hid (bv (UInt8.ofNat (128 + n / 64 % 64)) = .int .u8 (128 + (n : Int) / 64 % 64)) := Lib.hid (bv_at _ _ (by omega) (by omega))
      have v3 : Hid (bv (UInt8.ofNat (128 + n % 64)) = .int .u8 (128 + (n : Int) % 64)) := Lib.hid (bv_at _ _ (by omega) (by omega))
      have e1 : decide ((n : Int) < 128) = false := by simp; omega
      have e1' : decide (n < 128) = false := by simp; omega
      have e2 : decide ((n : Int) < 2048) = false := by simp; omega
      have e2' : decide (n < 2048) = false := by simp; omega
      have e3 : decide ((n : Int) < 65536) = true := by simp; omega
      have e3' : decide (n < 65536) = true := by simp; omega
      clear hu h3 h0
      go_enter Tryd.func68, Tryd.ntmps68
      go_wp2
      all_goals
        go_ret
        refine utfP_some HX.out (by simp) rfl ?_
        simp only [List.map_cons, List.map_nil, v1.out, v2.out, v3.out]
    · have HX : Hid (utfL (n : Int) = [UInt8.ofNat (240 + n / 262144), UInt8.ofNat (128 + n / 4096 % 64), UInt8.ofNat (128 + n / 64 % 64), UInt8.ofNat (128 + n % 64)]) := Lib.hid (by rw [hu]; unfold utfN; rw [if_neg h0, if_neg k1, if_neg k2, if_neg k3])
      have v1 : Hid (bv (UInt8.ofNat (240 + n / 262144)) = .int .u8 (240 + (n : Int) / 262144)) := Lib.hid (bv_at _ _ (by omega) (by omega))
      have v2 : Hid (bv (UInt8.ofNat (128 + n / 4096 % 64)) = .int .u8 (128 + (n : Int) / 4096 % 64)) := Lib.hid (bv_at _ _ (by omega) (by omega))
      have v3 : Hid (bv (UInt8.ofNat (128 + n / 64 % 64)) = .int .u8 (128 + (n : Int) / 64 % 64)) := Lib.hid (bv_at _ _ (by omega) (by omega))
      have v4 : Hid (bv (UInt8.ofNat (128 + n % 64)) = .int .u8 (128 + (n : Int) % 64)) := Lib.hid (bv_at _ _ (by omega) (by omega))
      have e1 : decide ((n : Int) < 128) = false := by simp; omega
      have e1' : decide (n < 128) = false := by simp; omega
      have e2 : decide ((n : Int) < 2048) = false := by simp; omega
      have e2' : decide (n < 2048) = false := by simp; omega
      have e3 : decide ((n : Int) < 65536) = false := by simp; omega
      have e3' : decide (n < 65536) = false := by simp; omega
      clear hu h3 h0
      go_enter Tryd.func68, Tryd.ntmps68
      go_wp2
      all_goals
        go_ret
        refine utfP_some HX.out (by simp) rfl ?_
        simp only [List.map_cons, List.map_nil, v1.out, v2.out, v3.out, v4.out]
  have d3 : decide ((55296 : Int) ≤ (n : Int)) = false := by simp; omega
  have d3' : decide (55296 ≤ n) = false := by simp; omega
  by_cases k1 : n < 128
  · have HX : Hid (utfL (n : Int) = [UInt8.ofNat (n)]) := Lib.hid (by rw [hu]; unfold utfN; rw [if_neg h0, if_pos k1])
    have v1 : Hid (bv (UInt8.ofNat (n)) = .int .u8 ((n : Int))) := Lib.hid (bv_at _ _ (by omega) (by omega))
    have e1 : decide ((n : Int) < 128) = true := by simp; omega
    have e1' : decide (n < 128) = true := by simp; omega
    clear hu h3 h0
    go_enter Tryd.func68, Tryd.ntmps68
    go_wp2
    all_goals
      go_ret
      refine utfP_some HX.out (by simp) rfl ?_
      simp only [List.map_cons, List.map_nil, v1.out]
  by_cases k2 : n < 2048
  · have HX : Hid (utfL (n : Int) = [UInt8.ofNat (192 + n / 64), UInt8.ofNat (128 + n % 64)]) := Lib.hid (by rw [hu]; unfold utfN; rw [if_neg h0, if_neg k1, if_pos k2])
    have v1 : Hid (bv (UInt8.ofNat (192 + n / 64)) = .int .u8 (192 + (n : Int) / 64)) := Lib.hid (bv_at _ _ (by omega) (by omega))
    have v2 : Hid (bv (UInt8.ofNat (128 + n % 64)) = .int .u8 (128 + (n : Int) % 64)) := Lib.hid (bv_at _ _ (by omega) (by omega))
    have e1 : decide ((n : Int) < 128) = false := by simp; omega
    have e1' : decide (n < 128) = false := by simp; omega
    have e2 : decide ((n : Int) < 2048) = true := by simp; omega
    have e2' : decide (n < 2048) = true := by simp; omega
    clear hu h3 h0
    go_enter Tryd.func68, Tryd.ntmps68
    go_wp2
    all_goals
      go_ret
      refine utfP_some HX.out (by simp) rfl ?_
      simp only [List.map_cons, List.map_nil, v1.out, v2.out]
  have k3 : n < 65536 := by omega
  have HX : Hid (utfL (n : Int) = [UInt8.ofNat (224 + n / 4096), UInt8.ofNat (128 + n / 64 % 64), UInt8.ofNat (128 + n % 64)]) := Lib.hid (by rw [hu]; unfold utfN; rw [if_neg h0, if_neg k1, if_neg k2, if_pos k3])
  have v1 : Hid (bv (UInt8.ofNat (224 + n / 4096)) = .int .u8 (224 + (n : Int) / 4096)) := Lib.hid (bv_at _ _ (by omega) (by omega))
  have v2 : Hid (bv (UInt8.ofNat (128 + n / 64 % 64)) = .int .u8 (128 + (n : Int) / 64 % 64)) := Lib.hid (bv_at _ _ (by omega) (by omega))
  have v3 : Hid (bv (UInt8.ofNat (128 + n % 64)) = .int .u8 (128 + (n : Int) % 64)) := Lib.hid (bv_at _ _ (by omega) (by omega))
  have e1 : decide ((n : Int) < 128) = false := by simp; omega
  have e1' : decide (n < 128) = false := by simp; omega
  have e2 : decide ((n : Int) < 2048) = false := by simp; omega
  have e2' : decide (n < 2048) = false := by simp; omega
  have e3 : decide ((n : Int) < 65536) = true := by simp; omega
  have e3' : decide (n < 65536) = true := by simp; omega
  clear hu h3 h0
  go_enter Tryd.func68, Tryd.ntmps68
  go_wp2
  all_goals
    go_ret
    refine utfP_some HX.out (by simp) rfl ?_
    simp only [List.map_cons, List.map_nil, v1.out, v2.out, v3.out]
theorem getD_at (s : ByteArray) (k : Nat) (h : k < s.size) : s.data.toList.getD k 0 = s[k]'h := by
  rw [List.getD_eq_getElem?_getD, List.getElem?_eq_getElem (by simpa using h)]
  rfl
theorem valK_bd (l : List UInt8) (v j : Nat) (hv : v ≤ 191) (hj : j ≤ 2) : valK l v j ≤ 1061055 := by
  have h1 := (l.getD 1 0).toNat_lt
  have h2 := (l.getD 2 0).toNat_lt
  have e0 : valK l v 0 = v := rfl
  have e1 : valK l v 1 = valK l v 0 * 64 + ((l.getD 1 0).toNat - 128) := rfl
  have e2 : valK l v 2 = valK l v 1 * 64 + ((l.getD 2 0).toNat - 128) := rfl
  rcases (show j = 0 ∨ j = 1 ∨ j = 2 by omega) with rfl | rfl | rfl
  · omega
  · omega
  · omega
theorem contB_bad {l : List UInt8} {j : Nat} (hb : (l.getD (j + 1) 0).toNat < 128 ∨ 191 < (l.getD (j + 1) 0).toNat) : ∀ {m : Nat}, j < m → contB l m = false := by
  intro m
  induction m with
  | zero => intro h; omega
  | succ m ih =>
    intro h
    show (contB l m && (decide (128 ≤ (l.getD (m + 1) 0).toNat) && decide ((l.getD (m + 1) 0).toNat ≤ 191))) = false
    by_cases e : j = m
    · subst e
      rcases hb with hb | hb
      · rw [decide_eq_false (show ¬ 128 ≤ (l.getD (j + 1) 0).toNat by omega)]; simp
      · rw [decide_eq_false (show ¬ (l.getD (j + 1) 0).toNat ≤ 191 by omega)]; simp
    · rw [ih (by omega)]; rfl
theorem refT_cont {l : List UInt8} {v n j : Nat} (hj : j < n - 1) (hb : (l.getD (j + 1) 0).toNat < 128 ∨ 191 < (l.getD (j + 1) 0).toNat) : refT l v n = (0, 0) := by
  unfold refT
  rw [if_neg]
  rintro ⟨_, h, _⟩
  rw [contB_bad hb hj] at h
  cases h
theorem firm_bs {S : Nat → Prop} {A : Option Addr} {n : Nat} {bs : List UInt8} : Firm fun w => Bs w S A n bs := fun _ _ h he => Bs.below h he
def RuneP (l : List UInt8) (w : World) (e : Ending) (w' : World) : Prop := e = .returned (.tuple #[.int .i64 ((refR l).1 : Nat), .int .i64 ((refR l).2 : Nat)]) ∧ Below w.heap.size w w'
set_option maxRecDepth 100000 in
set_option maxHeartbeats 4000000 in
theorem rrune1 (s : ByteArray) (w : World) (b0 : UInt8) (hs0 : 0 < s.size) (hb0 : s[0]'hs0 = b0) (hlo : 0 ≤ b0.toNat) (hhi : b0.toNat < 192) : Calls Tryd.prog 65 #[.string s] w (RuneP s.data.toList w) := by
  have hb256 := b0.toNat_lt
  obtain ⟨l, hl0⟩ : ∃ l, s.data.toList = l := ⟨_, rfl⟩
  have hlen : l.length = s.size := by rw [← hl0]; simp
  have hne : l ≠ [] := by intro h; rw [h] at hlen; simp at hlen; omega
  have e0 : l.getD 0 0 = b0 := by rw [← hl0, ← hb0]; exact getD_at s 0 hs0
  have HG : Hid (∀ k (h : k < s.size), l.getD k 0 = s[k]'h) := Lib.hid (fun k h => by rw [← hl0]; exact getD_at s k h)
  rw [hl0]
  obtain ⟨v0, hv0⟩ : ∃ v0 : Nat, b0.toNat = v0 := ⟨_, rfl⟩
  have hl : lead b0.toNat = (v0, 1) := by rw [lead1 hhi, hv0]
  have HR : Hid (refR l = refT l v0 1) := Lib.hid (by unfold refR; rw [if_neg hne, e0, hl])
  have hv : (b0.toNat : Int) = (v0 : Int) := by omega
  have hvb : v0 ≤ 191 := by omega
  have a4 : decide ((240 : Int) ≤ (b0.toNat : Int)) = false := decide_eq_false (by omega)
  have a4' : decide (240 ≤ b0.toNat) = false := decide_eq_false (by omega)
  have a3 : decide ((224 : Int) ≤ (b0.toNat : Int)) = false := decide_eq_false (by omega)
  have a3' : decide (224 ≤ b0.toNat) = false := decide_eq_false (by omega)
  have a2 : decide ((192 : Int) ≤ (b0.toNat : Int)) = false := decide_eq_false (by omega)
  have a2' : decide (192 ≤ b0.toNat) = false := decide_eq_false (by omega)
  have HL0 := Lib.hid hl0
  have HLEN := Lib.hid hlen
  have HB0 := Lib.hid hb0
  have d0 : ((s.size : Int) == 0) = false := by rw [beq_eq_false_iff_ne]; omega
  have d0' : (s.size == 0) = false := by rw [beq_eq_false_iff_ne]; omega
  have hz0 : (0 : Int) < (s.size : Int) := by omega
  subst hv0
  clear hl hl0 hlen hne e0 hv
  by_cases hsz : 1 ≤ s.size
  case neg =>
    have d1 : decide ((s.size : Int) < 1) = true := decide_eq_true (by omega)
    have d1' : decide (s.size < 1) = true := decide_eq_true (by omega)
    have e : refT l b0.toNat 1 = (0, 0) := by unfold refT; rw [if_neg (by rw [HLEN.out]; omega)]
    have HE := Lib.hid e
    clear e
    go_enter Tryd.func65, Tryd.ntmps65
    go_wp2
    simp [bodyPost, results, Tryd.results65, go_sem]
    refine ⟨?_, Below.refl _ _⟩
    rw [HR.out, HE.out]; rfl
  have d1 : decide ((s.size : Int) < 1) = false := decide_eq_false (by omega)
  have d1' : decide (s.size < 1) = false := decide_eq_false (by omega)
  go_enter Tryd.func65, Tryd.ntmps65
  go_wp2
  go_loop [4, 6] (fun v i => ∃ k j u : Nat, k ≤ 1 ∧ u ≤ 67907775 ∧ i = .int .i64 (k : Nat) ∧ v = .int .i64 (u : Nat) ∧ Hid (k = j + 1) ∧ Hid (valK l b0.toNat j = u) ∧ Hid (contB l j = true)) (fun _ i => 1 - (intOf i).toNat)
  case atStart => exact ⟨1, 0, b0.toNat, by omega, by omega, rfl, rfl, Lib.hid rfl, Lib.hid rfl, Lib.hid rfl⟩
  case round =>
    obtain ⟨k, j, u, hk, hu, rfl, rfl, HK, HV, HC⟩ := hrel
    by_cases hlt : k < 1
    · have h2 : (k : Int) < 1 := by omega
      have h4 : (k : Int) < (s.size : Int) := by omega
      have hks : k < s.size := by omega
      have h3 : ((k : Int)).toNat = k := by omega
      obtain ⟨b, hb⟩ : ∃ b, s[k]'hks = b := ⟨_, rfl⟩
      have HB : Hid (l.getD (j + 1) 0 = b) := Lib.hid (by rw [← HK.out, HG.out k hks, hb])
      have hb2 := b.toNat_lt
      have hu2 : u ≤ 1061055 := by
        have := HV.out
        have hk' := HK.out
        have hj : j ≤ 2 := by omega
        rw [← this]; exact valK_bd l b0.toNat j (by omega) hj
      by_cases c1 : b.toNat < 128
      · have x1 : decide ((b.toNat : Int) < 128) = true := decide_eq_true (by omega)
        have x1' : decide (b.toNat < 128) = true := decide_eq_true (by omega)
        have e : refT l b0.toNat 1 = (0, 0) := refT_cont (j := j) (by have := HK.out; omega) (by rw [HB.out]; omega)
        have HE := Lib.hid e
        clear e
        go_wp2
        simp [bodyPost, results, Tryd.results65, go_sem]
        refine ⟨?_, Below.refl _ _⟩
        rw [HR.out, HE.out]; rfl
      have x1 : decide ((b.toNat : Int) < 128) = false := decide_eq_false (by omega)
      have x1' : decide (b.toNat < 128) = false := decide_eq_false (by omega)
      by_cases c2 : 191 < b.toNat
      · have x2 : decide ((191 : Int) < (b.toNat : Int)) = true := decide_eq_true (by omega)
        have x2' : decide (191 < b.toNat) = true := decide_eq_true (by omega)
        have e : refT l b0.toNat 1 = (0, 0) := refT_cont (j := j) (by have := HK.out; omega) (by rw [HB.out]; omega)
        have HE := Lib.hid e
        clear e
        go_wp2
        simp [bodyPost, results, Tryd.results65, go_sem]
        refine ⟨?_, Below.refl _ _⟩
        rw [HR.out, HE.out]; rfl
      have x2 : decide ((191 : Int) < (b.toNat : Int)) = false := decide_eq_false (by omega)
      have x2' : decide (191 < b.toNat) = false := decide_eq_false (by omega)
      obtain ⟨y, hy⟩ : ∃ y : Nat, u * 64 + (b.toNat - 128) = y := ⟨_, rfl⟩
      have hyy : (u : Int) * 64 + (b.toNat : Int) - 128 = (y : Int) := by omega
      have hyb : y ≤ 67907775 := by omega
      have HY : Hid (valK l b0.toNat (j + 1) = y) := Lib.hid (by
        show valK l b0.toNat j * 64 + ((l.getD (j + 1) 0).toNat - 128) = y
        rw [HV.out, HB.out, hy])
      have HC2 : Hid (contB l (j + 1) = true) := Lib.hid (by
        show (contB l j && (decide (128 ≤ (l.getD (j + 1) 0).toNat) && decide ((l.getD (j + 1) 0).toNat ≤ 191))) = true
        rw [HC.out, HB.out, decide_eq_true (by omega), decide_eq_true (by omega)]; rfl)
      clear hy
      go_wp2
      exact ⟨⟨k + 1, j + 1, y, by omega, hyb, by simp, by first | rfl | (simp; omega), Lib.hid (by rw [HK.out]), HY, HC2⟩, by simp only [intOf]; omega⟩
    · have hkn : k = 1 := by omega
      subst hkn
      have hj : j = 1 - 1 := by have := HK.out; omega
      subst hj
      have UA := Lib.hid (fun w => utf_any (u : Int) w)
      unfold UtfP at UA
      have hul : utfL (u : Int) = utfN u := by unfold utfL; rw [if_neg (by omega)]; rfl
      rw [hul] at UA
      obtain ⟨U, hU⟩ : ∃ U, utfN u = U := ⟨_, rfl⟩
      rw [hU] at UA
      obtain ⟨m, hm⟩ : ∃ m, U.length = m := ⟨_, rfl⟩
      rw [hm] at UA
      obtain ⟨X, hX⟩ : ∃ X, s.extract 0 1 = X := ⟨_, rfl⟩
      have hXd : X.data.toList = l.take 1 := by rw [← hX, ← HL0.out, Lib.extract_data]; simp
      have hT : refT l b0.toNat 1 = if U = l.take 1 then (u, 1) else (0, 0) := by
        unfold refT
        rw [show 1 - 1 = 0 from rfl, HV.out, hU]
        refine ite_pair ⟨fun h => h.2.2, fun h => ⟨by rw [HLEN.out]; omega, HC.out, h⟩⟩ _ _
      rw [← hXd] at hT
      have HT := Lib.hid hT
      have HX := Lib.hid hX
      clear hul hU hT hXd hX
      have h3 : (1 : Int) ≤ (s.size : Int) := by omega
      go_wp2_with fail
      refine wp_region_free2 (mk := fun j => [].any (Nat.beq j)) (by kernel_rfl) (by kernel_rfl) (by kernel_rfl) ?_
      iterate 1 (first | ((with_reducible refine vfree_skip rfl ?_ ?_); (focus rfl); intro K hK; go_big_quiet_op; go_big_quiet_on) | ((with_reducible refine vfree_hard ?_ ?_ ?_); (focus rfl); (focus rfl); intro K hK; go_big_quiet_op; go_big_quiet_on))
      refine vfree_soft (ι := Option Addr × Nat) (fun i => .slice i.1 (m) i.2) (fun i w' => Bs w' (fun b => w.heap.size ≤ b) i.1 (m) (U)) rfl rfl rfl (fun _ => firm_bs) (fun w' hw' => ?_) (fun i => ?_)
      · have hb := hw'.1.below
        go_simp
        refine (UA.out w').mono ?_
        rintro e w2 ⟨A', c', rfl, ho, hb2⟩
        exact ⟨hb2, (A', c'), rfl, (Bs.of_own ho).mono fun b h => by have := hb.size; omega⟩
      obtain ⟨A9, c9⟩ := i
      dsimp only
      intro K hK
      go_big_quiet_op
      go_big_quiet_on
      refine vfree_fact (.string ⟨U.toArray⟩) rfl rfl rfl (fun w' hw' => ?_) ?_
      · have hf := str_of c9 (hw'.2 1 (by kernel_rfl)).1
        clear hw'
        go_simp
      intro K hK
      go_big_quiet_op
      go_big_quiet_on
      iterate 4 (first | ((with_reducible refine vfree_skip rfl ?_ ?_); (focus rfl); intro K hK; go_big_quiet_op; go_big_quiet_on) | ((with_reducible refine vfree_hard ?_ ?_ ?_); (focus rfl); (focus rfl); intro K hK; go_big_quiet_op; go_big_quiet_on))
      refine vfree_nil ?_
      intro w5 hb5 hk5
      have HW := Lib.hid hb5
      clear hk5 hb5
      by_cases hq : U = X.data.toList
      · have hT2 : Hid (refT l b0.toNat 1 = (u, 1)) := Lib.hid (by rw [HT.out, if_pos hq])
        go_wp2
        all_goals first
          | (rename_i hx; exfalso; revert hx; simp [HX.out, Lib.toList_data, hq]; done)
          | (simp [bodyPost, results, Tryd.results65, go_sem]; exact ⟨by rw [HR.out, hT2.out]; rfl, HW.out⟩)
      · have hT2 : Hid (refT l b0.toNat 1 = (0, 0)) := Lib.hid (by rw [HT.out, if_neg hq])
        go_wp2
        all_goals first
          | (rename_i hx; exfalso; revert hx; simp [HX.out, Lib.toList_data, hq]; done)
          | (simp [bodyPost, results, Tryd.results65, go_sem]; exact ⟨by rw [HR.out, hT2.out]; rfl, HW.out⟩)
set_option maxRecDepth 100000 in
set_option maxHeartbeats 4000000 in
theorem rrune2 (s : ByteArray) (w : World) (b0 : UInt8) (hs0 : 0 < s.size) (hb0 : s[0]'hs0 = b0) (hlo : 192 ≤ b0.toNat) (hhi : b0.toNat < 224) : Calls Tryd.prog 65 #[.string s] w (RuneP s.data.toList w) := by
  have hb256 := b0.toNat_lt
  obtain ⟨l, hl0⟩ : ∃ l, s.data.toList = l := ⟨_, rfl⟩
  have hlen : l.length = s.size := by rw [← hl0]; simp
  have hne : l ≠ [] := by intro h; rw [h] at hlen; simp at hlen; omega
  have e0 : l.getD 0 0 = b0 := by rw [← hl0, ← hb0]; exact getD_at s 0 hs0
  have HG : Hid (∀ k (h : k < s.size), l.getD k 0 = s[k]'h) := Lib.hid (fun k h => by rw [← hl0]; exact getD_at s k h)
  rw [hl0]
  obtain ⟨v0, hv0⟩ : ∃ v0 : Nat, b0.toNat - 192 = v0 := ⟨_, rfl⟩
  have hl : lead b0.toNat = (v0, 2) := by rw [lead2 (by omega) hhi, hv0]
  have HR : Hid (refR l = refT l v0 2) := Lib.hid (by unfold refR; rw [if_neg hne, e0, hl])
  have hv : (b0.toNat : Int) - 192 = (v0 : Int) := by omega
  have hvb : v0 ≤ 191 := by omega
  have a4 : decide ((240 : Int) ≤ (b0.toNat : Int)) = false := decide_eq_false (by omega)
  have a4' : decide (240 ≤ b0.toNat) = false := decide_eq_false (by omega)
  have a3 : decide ((224 : Int) ≤ (b0.toNat : Int)) = false := decide_eq_false (by omega)
  have a3' : decide (224 ≤ b0.toNat) = false := decide_eq_false (by omega)
  have a2 : decide ((192 : Int) ≤ (b0.toNat : Int)) = true := decide_eq_true (by omega)
  have a2' : decide (192 ≤ b0.toNat) = true := decide_eq_true (by omega)
  have HL0 := Lib.hid hl0
  have HLEN := Lib.hid hlen
  have HB0 := Lib.hid hb0
  have d0 : ((s.size : Int) == 0) = false := by rw [beq_eq_false_iff_ne]; omega
  have d0' : (s.size == 0) = false := by rw [beq_eq_false_iff_ne]; omega
  have hz0 : (0 : Int) < (s.size : Int) := by omega
  clear hl hl0 hlen hne e0 hv0
  by_cases hsz : 2 ≤ s.size
  case neg =>
    have d1 : decide ((s.size : Int) < 2) = true := decide_eq_true (by omega)
    have d1' : decide (s.size < 2) = true := decide_eq_true (by omega)
    have e : refT l v0 2 = (0, 0) := by unfold refT; rw [if_neg (by rw [HLEN.out]; omega)]
    have HE := Lib.hid e
    clear e
    go_enter Tryd.func65, Tryd.ntmps65
    go_wp2
    simp [bodyPost, results, Tryd.results65, go_sem]
    refine ⟨?_, Below.refl _ _⟩
    rw [HR.out, HE.out]; rfl
  have d1 : decide ((s.size : Int) < 2) = false := decide_eq_false (by omega)
  have d1' : decide (s.size < 2) = false := decide_eq_false (by omega)
  go_enter Tryd.func65, Tryd.ntmps65
  go_wp2
  go_loop [4, 6] (fun v i => ∃ k j u : Nat, k ≤ 2 ∧ u ≤ 67907775 ∧ i = .int .i64 (k : Nat) ∧ v = .int .i64 (u : Nat) ∧ Hid (k = j + 1) ∧ Hid (valK l v0 j = u) ∧ Hid (contB l j = true)) (fun _ i => 2 - (intOf i).toNat)
  case atStart => exact ⟨1, 0, v0, by omega, by omega, rfl, rfl, Lib.hid rfl, Lib.hid rfl, Lib.hid rfl⟩
  case round =>
    obtain ⟨k, j, u, hk, hu, rfl, rfl, HK, HV, HC⟩ := hrel
    by_cases hlt : k < 2
    · have h2 : (k : Int) < 2 := by omega
      have h4 : (k : Int) < (s.size : Int) := by omega
      have hks : k < s.size := by omega
      have h3 : ((k : Int)).toNat = k := by omega
      obtain ⟨b, hb⟩ : ∃ b, s[k]'hks = b := ⟨_, rfl⟩
      have HB : Hid (l.getD (j + 1) 0 = b) := Lib.hid (by rw [← HK.out, HG.out k hks, hb])
      have hb2 := b.toNat_lt
      have hu2 : u ≤ 1061055 := by
        have := HV.out
        have hk' := HK.out
        have hj : j ≤ 2 := by omega
        rw [← this]; exact valK_bd l v0 j (by omega) hj
      by_cases c1 : b.toNat < 128
      · have x1 : decide ((b.toNat : Int) < 128) = true := decide_eq_true (by omega)
        have x1' : decide (b.toNat < 128) = true := decide_eq_true (by omega)
        have e : refT l v0 2 = (0, 0) := refT_cont (j := j) (by have := HK.out; omega) (by rw [HB.out]; omega)
        have HE := Lib.hid e
        clear e
        go_wp2
        simp [bodyPost, results, Tryd.results65, go_sem]
        refine ⟨?_, Below.refl _ _⟩
        rw [HR.out, HE.out]; rfl
      have x1 : decide ((b.toNat : Int) < 128) = false := decide_eq_false (by omega)
      have x1' : decide (b.toNat < 128) = false := decide_eq_false (by omega)
      by_cases c2 : 191 < b.toNat
      · have x2 : decide ((191 : Int) < (b.toNat : Int)) = true := decide_eq_true (by omega)
        have x2' : decide (191 < b.toNat) = true := decide_eq_true (by omega)
        have e : refT l v0 2 = (0, 0) := refT_cont (j := j) (by have := HK.out; omega) (by rw [HB.out]; omega)
        have HE := Lib.hid e
        clear e
        go_wp2
        simp [bodyPost, results, Tryd.results65, go_sem]
        refine ⟨?_, Below.refl _ _⟩
        rw [HR.out, HE.out]; rfl
      have x2 : decide ((191 : Int) < (b.toNat : Int)) = false := decide_eq_false (by omega)
      have x2' : decide (191 < b.toNat) = false := decide_eq_false (by omega)
      obtain ⟨y, hy⟩ : ∃ y : Nat, u * 64 + (b.toNat - 128) = y := ⟨_, rfl⟩
      have hyy : (u : Int) * 64 + (b.toNat : Int) - 128 = (y : Int) := by omega
      have hyb : y ≤ 67907775 := by omega
      have HY : Hid (valK l v0 (j + 1) = y) := Lib.hid (by
        show valK l v0 j * 64 + ((l.getD (j + 1) 0).toNat - 128) = y
        rw [HV.out, HB.out, hy])
      have HC2 : Hid (contB l (j + 1) = true) := Lib.hid (by
        show (contB l j && (decide (128 ≤ (l.getD (j + 1) 0).toNat) && decide ((l.getD (j + 1) 0).toNat ≤ 191))) = true
        rw [HC.out, HB.out, decide_eq_true (by omega), decide_eq_true (by omega)]; rfl)
      clear hy
      go_wp2
      exact ⟨⟨k + 1, j + 1, y, by omega, hyb, by simp, by first | rfl | (simp; omega), Lib.hid (by rw [HK.out]), HY, HC2⟩, by simp only [intOf]; omega⟩
    · have hkn : k = 2 := by omega
      subst hkn
      have hj : j = 2 - 1 := by have := HK.out; omega
      subst hj
      have UA := Lib.hid (fun w => utf_any (u : Int) w)
      unfold UtfP at UA
      have hul : utfL (u : Int) = utfN u := by unfold utfL; rw [if_neg (by omega)]; rfl
      rw [hul] at UA
      obtain ⟨U, hU⟩ : ∃ U, utfN u = U := ⟨_, rfl⟩
      rw [hU] at UA
      obtain ⟨m, hm⟩ : ∃ m, U.length = m := ⟨_, rfl⟩
      rw [hm] at UA
      obtain ⟨X, hX⟩ : ∃ X, s.extract 0 2 = X := ⟨_, rfl⟩
      have hXd : X.data.toList = l.take 2 := by rw [← hX, ← HL0.out, Lib.extract_data]; simp
      have hT : refT l v0 2 = if U = l.take 2 then (u, 2) else (0, 0) := by
        unfold refT
        rw [show 2 - 1 = 1 from rfl, HV.out, hU]
        refine ite_pair ⟨fun h => h.2.2, fun h => ⟨by rw [HLEN.out]; omega, HC.out, h⟩⟩ _ _
      rw [← hXd] at hT
      have HT := Lib.hid hT
      have HX := Lib.hid hX
      clear hul hU hT hXd hX
      have h3 : (2 : Int) ≤ (s.size : Int) := by omega
      go_wp2_with fail
      refine wp_region_free2 (mk := fun j => [].any (Nat.beq j)) (by kernel_rfl) (by kernel_rfl) (by kernel_rfl) ?_
      iterate 1 (first | ((with_reducible refine vfree_skip rfl ?_ ?_); (focus rfl); intro K hK; go_big_quiet_op; go_big_quiet_on) | ((with_reducible refine vfree_hard ?_ ?_ ?_); (focus rfl); (focus rfl); intro K hK; go_big_quiet_op; go_big_quiet_on))
      refine vfree_soft (ι := Option Addr × Nat) (fun i => .slice i.1 (m) i.2) (fun i w' => Bs w' (fun b => w.heap.size ≤ b) i.1 (m) (U)) rfl rfl rfl (fun _ => firm_bs) (fun w' hw' => ?_) (fun i => ?_)
      · have hb := hw'.1.below
        go_simp
        refine (UA.out w').mono ?_
        rintro e w2 ⟨A', c', rfl, ho, hb2⟩
        exact ⟨hb2, (A', c'), rfl, (Bs.of_own ho).mono fun b h => by have := hb.size; omega⟩
      obtain ⟨A9, c9⟩ := i
      dsimp only
      intro K hK
      go_big_quiet_op
      go_big_quiet_on
      refine vfree_fact (.string ⟨U.toArray⟩) rfl rfl rfl (fun w' hw' => ?_) ?_
      · have hf := str_of c9 (hw'.2 1 (by kernel_rfl)).1
        clear hw'
        go_simp
      intro K hK
      go_big_quiet_op
      go_big_quiet_on
      iterate 4 (first | ((with_reducible refine vfree_skip rfl ?_ ?_); (focus rfl); intro K hK; go_big_quiet_op; go_big_quiet_on) | ((with_reducible refine vfree_hard ?_ ?_ ?_); (focus rfl); (focus rfl); intro K hK; go_big_quiet_op; go_big_quiet_on))
      refine vfree_nil ?_
      intro w5 hb5 hk5
      have HW := Lib.hid hb5
      clear hk5 hb5
      by_cases hq : U = X.data.toList
      · have hT2 : Hid (refT l v0 2 = (u, 2)) := Lib.hid (by rw [HT.out, if_pos hq])
        go_wp2
        all_goals first
          | (rename_i hx; exfalso; revert hx; simp [HX.out, Lib.toList_data, hq]; done)
          | (simp [bodyPost, results, Tryd.results65, go_sem]; exact ⟨by rw [HR.out, hT2.out]; rfl, HW.out⟩)
      · have hT2 : Hid (refT l v0 2 = (0, 0)) := Lib.hid (by rw [HT.out, if_neg hq])
        go_wp2
        all_goals first
          | (rename_i hx; exfalso; revert hx; simp [HX.out, Lib.toList_data, hq]; done)
          | (simp [bodyPost, results, Tryd.results65, go_sem]; exact ⟨by rw [HR.out, hT2.out]; rfl, HW.out⟩)
set_option maxRecDepth 100000 in
set_option maxHeartbeats 4000000 in
theorem rrune3 (s : ByteArray) (w : World) (b0 : UInt8) (hs0 : 0 < s.size) (hb0 : s[0]'hs0 = b0) (hlo : 224 ≤ b0.toNat) (hhi : b0.toNat < 240) : Calls Tryd.prog 65 #[.string s] w (RuneP s.data.toList w) := by
  have hb256 := b0.toNat_lt
  obtain ⟨l, hl0⟩ : ∃ l, s.data.toList = l := ⟨_, rfl⟩
  have hlen : l.length = s.size := by rw [← hl0]; simp
  have hne : l ≠ [] := by intro h; rw [h] at hlen; simp at hlen; omega
  have e0 : l.getD 0 0 = b0 := by rw [← hl0, ← hb0]; exact getD_at s 0 hs0
  have HG : Hid (∀ k (h : k < s.size), l.getD k 0 = s[k]'h) := Lib.hid (fun k h => by rw [← hl0]; exact getD_at s k h)
  rw [hl0]
  obtain ⟨v0, hv0⟩ : ∃ v0 : Nat, b0.toNat - 224 = v0 := ⟨_, rfl⟩
  have hl : lead b0.toNat = (v0, 3) := by rw [lead3 (by omega) hhi, hv0]
  have HR : Hid (refR l = refT l v0 3) := Lib.hid (by unfold refR; rw [if_neg hne, e0, hl])
  have hv : (b0.toNat : Int) - 224 = (v0 : Int) := by omega
  have hvb : v0 ≤ 191 := by omega
  have a4 : decide ((240 : Int) ≤ (b0.toNat : Int)) = false := decide_eq_false (by omega)
  have a4' : decide (240 ≤ b0.toNat) = false := decide_eq_false (by omega)
  have a3 : decide ((224 : Int) ≤ (b0.toNat : Int)) = true := decide_eq_true (by omega)
  have a3' : decide (224 ≤ b0.toNat) = true := decide_eq_true (by omega)
  have HL0 := Lib.hid hl0
  have HLEN := Lib.hid hlen
  have HB0 := Lib.hid hb0
  have d0 : ((s.size : Int) == 0) = false := by rw [beq_eq_false_iff_ne]; omega
  have d0' : (s.size == 0) = false := by rw [beq_eq_false_iff_ne]; omega
  have hz0 : (0 : Int) < (s.size : Int) := by omega
  clear hl hl0 hlen hne e0 hv0
  by_cases hsz : 3 ≤ s.size
  case neg =>
    have d1 : decide ((s.size : Int) < 3) = true := decide_eq_true (by omega)
    have d1' : decide (s.size < 3) = true := decide_eq_true (by omega)
    have e : refT l v0 3 = (0, 0) := by unfold refT; rw [if_neg (by rw [HLEN.out]; omega)]
    have HE := Lib.hid e
    clear e
    go_enter Tryd.func65, Tryd.ntmps65
    go_wp2
    simp [bodyPost, results, Tryd.results65, go_sem]
    refine ⟨?_, Below.refl _ _⟩
    rw [HR.out, HE.out]; rfl
  have d1 : decide ((s.size : Int) < 3) = false := decide_eq_false (by omega)
  have d1' : decide (s.size < 3) = false := decide_eq_false (by omega)
  go_enter Tryd.func65, Tryd.ntmps65
  go_wp2
  go_loop [4, 6] (fun v i => ∃ k j u : Nat, k ≤ 3 ∧ u ≤ 67907775 ∧ i = .int .i64 (k : Nat) ∧ v = .int .i64 (u : Nat) ∧ Hid (k = j + 1) ∧ Hid (valK l v0 j = u) ∧ Hid (contB l j = true)) (fun _ i => 3 - (intOf i).toNat)
  case atStart => exact ⟨1, 0, v0, by omega, by omega, rfl, rfl, Lib.hid rfl, Lib.hid rfl, Lib.hid rfl⟩
  case round =>
    obtain ⟨k, j, u, hk, hu, rfl, rfl, HK, HV, HC⟩ := hrel
    by_cases hlt : k < 3
    · have h2 : (k : Int) < 3 := by omega
      have h4 : (k : Int) < (s.size : Int) := by omega
      have hks : k < s.size := by omega
      have h3 : ((k : Int)).toNat = k := by omega
      obtain ⟨b, hb⟩ : ∃ b, s[k]'hks = b := ⟨_, rfl⟩
      have HB : Hid (l.getD (j + 1) 0 = b) := Lib.hid (by rw [← HK.out, HG.out k hks, hb])
      have hb2 := b.toNat_lt
      have hu2 : u ≤ 1061055 := by
        have := HV.out
        have hk' := HK.out
        have hj : j ≤ 2 := by omega
        rw [← this]; exact valK_bd l v0 j (by omega) hj
      by_cases c1 : b.toNat < 128
      · have x1 : decide ((b.toNat : Int) < 128) = true := decide_eq_true (by omega)
        have x1' : decide (b.toNat < 128) = true := decide_eq_true (by omega)
        have e : refT l v0 3 = (0, 0) := refT_cont (j := j) (by have := HK.out; omega) (by rw [HB.out]; omega)
        have HE := Lib.hid e
        clear e
        go_wp2
        simp [bodyPost, results, Tryd.results65, go_sem]
        refine ⟨?_, Below.refl _ _⟩
        rw [HR.out, HE.out]; rfl
      have x1 : decide ((b.toNat : Int) < 128) = false := decide_eq_false (by omega)
      have x1' : decide (b.toNat < 128) = false := decide_eq_false (by omega)
      by_cases c2 : 191 < b.toNat
      · have x2 : decide ((191 : Int) < (b.toNat : Int)) = true := decide_eq_true (by omega)
        have x2' : decide (191 < b.toNat) = true := decide_eq_true (by omega)
        have e : refT l v0 3 = (0, 0) := refT_cont (j := j) (by have := HK.out; omega) (by rw [HB.out]; omega)
        have HE := Lib.hid e
        clear e
        go_wp2
        simp [bodyPost, results, Tryd.results65, go_sem]
        refine ⟨?_, Below.refl _ _⟩
        rw [HR.out, HE.out]; rfl
      have x2 : decide ((191 : Int) < (b.toNat : Int)) = false := decide_eq_false (by omega)
      have x2' : decide (191 < b.toNat) = false := decide_eq_false (by omega)
      obtain ⟨y, hy⟩ : ∃ y : Nat, u * 64 + (b.toNat - 128) = y := ⟨_, rfl⟩
      have hyy : (u : Int) * 64 + (b.toNat : Int) - 128 = (y : Int) := by omega
      have hyb : y ≤ 67907775 := by omega
      have HY : Hid (valK l v0 (j + 1) = y) := Lib.hid (by
        show valK l v0 j * 64 + ((l.getD (j + 1) 0).toNat - 128) = y
        rw [HV.out, HB.out, hy])
      have HC2 : Hid (contB l (j + 1) = true) := Lib.hid (by
        show (contB l j && (decide (128 ≤ (l.getD (j + 1) 0).toNat) && decide ((l.getD (j + 1) 0).toNat ≤ 191))) = true
        rw [HC.out, HB.out, decide_eq_true (by omega), decide_eq_true (by omega)]; rfl)
      clear hy
      go_wp2
      exact ⟨⟨k + 1, j + 1, y, by omega, hyb, by simp, by first | rfl | (simp; omega), Lib.hid (by rw [HK.out]), HY, HC2⟩, by simp only [intOf]; omega⟩
    · have hkn : k = 3 := by omega
      subst hkn
      have hj : j = 3 - 1 := by have := HK.out; omega
      subst hj
      have UA := Lib.hid (fun w => utf_any (u : Int) w)
      unfold UtfP at UA
      have hul : utfL (u : Int) = utfN u := by unfold utfL; rw [if_neg (by omega)]; rfl
      rw [hul] at UA
      obtain ⟨U, hU⟩ : ∃ U, utfN u = U := ⟨_, rfl⟩
      rw [hU] at UA
      obtain ⟨m, hm⟩ : ∃ m, U.length = m := ⟨_, rfl⟩
      rw [hm] at UA
      obtain ⟨X, hX⟩ : ∃ X, s.extract 0 3 = X := ⟨_, rfl⟩
      have hXd : X.data.toList = l.take 3 := by rw [← hX, ← HL0.out, Lib.extract_data]; simp
      have hT : refT l v0 3 = if U = l.take 3 then (u, 3) else (0, 0) := by
        unfold refT
        rw [show 3 - 1 = 2 from rfl, HV.out, hU]
        refine ite_pair ⟨fun h => h.2.2, fun h => ⟨by rw [HLEN.out]; omega, HC.out, h⟩⟩ _ _
      rw [← hXd] at hT
      have HT := Lib.hid hT
      have HX := Lib.hid hX
      clear hul hU hT hXd hX
      have h3 : (3 : Int) ≤ (s.size : Int) := by omega
      go_wp2_with fail
      refine wp_region_free2 (mk := fun j => [].any (Nat.beq j)) (by kernel_rfl) (by kernel_rfl) (by kernel_rfl) ?_
      iterate 1 (first | ((with_reducible refine vfree_skip rfl ?_ ?_); (focus rfl); intro K hK; go_big_quiet_op; go_big_quiet_on) | ((with_reducible refine vfree_hard ?_ ?_ ?_); (focus rfl); (focus rfl); intro K hK; go_big_quiet_op; go_big_quiet_on))
      refine vfree_soft (ι := Option Addr × Nat) (fun i => .slice i.1 (m) i.2) (fun i w' => Bs w' (fun b => w.heap.size ≤ b) i.1 (m) (U)) rfl rfl rfl (fun _ => firm_bs) (fun w' hw' => ?_) (fun i => ?_)
      · have hb := hw'.1.below
        go_simp
        refine (UA.out w').mono ?_
        rintro e w2 ⟨A', c', rfl, ho, hb2⟩
        exact ⟨hb2, (A', c'), rfl, (Bs.of_own ho).mono fun b h => by have := hb.size; omega⟩
      obtain ⟨A9, c9⟩ := i
      dsimp only
      intro K hK
      go_big_quiet_op
      go_big_quiet_on
      refine vfree_fact (.string ⟨U.toArray⟩) rfl rfl rfl (fun w' hw' => ?_) ?_
      · have hf := str_of c9 (hw'.2 1 (by kernel_rfl)).1
        clear hw'
        go_simp
      intro K hK
      go_big_quiet_op
      go_big_quiet_on
      iterate 4 (first | ((with_reducible refine vfree_skip rfl ?_ ?_); (focus rfl); intro K hK; go_big_quiet_op; go_big_quiet_on) | ((with_reducible refine vfree_hard ?_ ?_ ?_); (focus rfl); (focus rfl); intro K hK; go_big_quiet_op; go_big_quiet_on))
      refine vfree_nil ?_
      intro w5 hb5 hk5
      have HW := Lib.hid hb5
      clear hk5 hb5
      by_cases hq : U = X.data.toList
      · have hT2 : Hid (refT l v0 3 = (u, 3)) := Lib.hid (by rw [HT.out, if_pos hq])
        go_wp2
        all_goals first
          | (rename_i hx; exfalso; revert hx; simp [HX.out, Lib.toList_data, hq]; done)
          | (simp [bodyPost, results, Tryd.results65, go_sem]; exact ⟨by rw [HR.out, hT2.out]; rfl, HW.out⟩)
      · have hT2 : Hid (refT l v0 3 = (0, 0)) := Lib.hid (by rw [HT.out, if_neg hq])
        go_wp2
        all_goals first
          | (rename_i hx; exfalso; revert hx; simp [HX.out, Lib.toList_data, hq]; done)
          | (simp [bodyPost, results, Tryd.results65, go_sem]; exact ⟨by rw [HR.out, hT2.out]; rfl, HW.out⟩)
set_option maxRecDepth 100000 in
set_option maxHeartbeats 4000000 in
theorem rrune4 (s : ByteArray) (w : World) (b0 : UInt8) (hs0 : 0 < s.size) (hb0 : s[0]'hs0 = b0) (hlo : 240 ≤ b0.toNat) (hhi : b0.toNat < 256) : Calls Tryd.prog 65 #[.string s] w (RuneP s.data.toList w) := by
  have hb256 := b0.toNat_lt
  obtain ⟨l, hl0⟩ : ∃ l, s.data.toList = l := ⟨_, rfl⟩
  have hlen : l.length = s.size := by rw [← hl0]; simp
  have hne : l ≠ [] := by intro h; rw [h] at hlen; simp at hlen; omega
  have e0 : l.getD 0 0 = b0 := by rw [← hl0, ← hb0]; exact getD_at s 0 hs0
  have HG : Hid (∀ k (h : k < s.size), l.getD k 0 = s[k]'h) := Lib.hid (fun k h => by rw [← hl0]; exact getD_at s k h)
  rw [hl0]
  obtain ⟨v0, hv0⟩ : ∃ v0 : Nat, b0.toNat - 240 = v0 := ⟨_, rfl⟩
  have hl : lead b0.toNat = (v0, 4) := by rw [lead4 (by omega), hv0]
  have HR : Hid (refR l = refT l v0 4) := Lib.hid (by unfold refR; rw [if_neg hne, e0, hl])
  have hv : (b0.toNat : Int) - 240 = (v0 : Int) := by omega
  have hvb : v0 ≤ 191 := by omega
  have a4 : decide ((240 : Int) ≤ (b0.toNat : Int)) = true := decide_eq_true (by omega)
  have a4' : decide (240 ≤ b0.toNat) = true := decide_eq_true (by omega)
  have HL0 := Lib.hid hl0
  have HLEN := Lib.hid hlen
  have HB0 := Lib.hid hb0
  have d0 : ((s.size : Int) == 0) = false := by rw [beq_eq_false_iff_ne]; omega
  have d0' : (s.size == 0) = false := by rw [beq_eq_false_iff_ne]; omega
  have hz0 : (0 : Int) < (s.size : Int) := by omega
  clear hl hl0 hlen hne e0 hv0
  by_cases hsz : 4 ≤ s.size
  case neg =>
    have d1 : decide ((s.size : Int) < 4) = true := decide_eq_true (by omega)
    have d1' : decide (s.size < 4) = true := decide_eq_true (by omega)
    have e : refT l v0 4 = (0, 0) := by unfold refT; rw [if_neg (by rw [HLEN.out]; omega)]
    have HE := Lib.hid e
    clear e
    go_enter Tryd.func65, Tryd.ntmps65
    go_wp2
    simp [bodyPost, results, Tryd.results65, go_sem]
    refine ⟨?_, Below.refl _ _⟩
    rw [HR.out, HE.out]; rfl
  have d1 : decide ((s.size : Int) < 4) = false := decide_eq_false (by omega)
  have d1' : decide (s.size < 4) = false := decide_eq_false (by omega)
  go_enter Tryd.func65, Tryd.ntmps65
  go_wp2
  go_loop [4, 6] (fun v i => ∃ k j u : Nat, k ≤ 4 ∧ u ≤ 67907775 ∧ i = .int .i64 (k : Nat) ∧ v = .int .i64 (u : Nat) ∧ Hid (k = j + 1) ∧ Hid (valK l v0 j = u) ∧ Hid (contB l j = true)) (fun _ i => 4 - (intOf i).toNat)
  case atStart => exact ⟨1, 0, v0, by omega, by omega, rfl, rfl, Lib.hid rfl, Lib.hid rfl, Lib.hid rfl⟩
  case round =>
    obtain ⟨k, j, u, hk, hu, rfl, rfl, HK, HV, HC⟩ := hrel
    by_cases hlt : k < 4
    · have h2 : (k : Int) < 4 := by omega
      have h4 : (k : Int) < (s.size : Int) := by omega
      have hks : k < s.size := by omega
      have h3 : ((k : Int)).toNat = k := by omega
      obtain ⟨b, hb⟩ : ∃ b, s[k]'hks = b := ⟨_, rfl⟩
      have HB : Hid (l.getD (j + 1) 0 = b) := Lib.hid (by rw [← HK.out, HG.out k hks, hb])
      have hb2 := b.toNat_lt
      have hu2 : u ≤ 1061055 := by
        have := HV.out
        have hk' := HK.out
        have hj : j ≤ 2 := by omega
        rw [← this]; exact valK_bd l v0 j (by omega) hj
      by_cases c1 : b.toNat < 128
      · have x1 : decide ((b.toNat : Int) < 128) = true := decide_eq_true (by omega)
        have x1' : decide (b.toNat < 128) = true := decide_eq_true (by omega)
        have e : refT l v0 4 = (0, 0) := refT_cont (j := j) (by have := HK.out; omega) (by rw [HB.out]; omega)
        have HE := Lib.hid e
        clear e
        go_wp2
        simp [bodyPost, results, Tryd.results65, go_sem]
        refine ⟨?_, Below.refl _ _⟩
        rw [HR.out, HE.out]; rfl
      have x1 : decide ((b.toNat : Int) < 128) = false := decide_eq_false (by omega)
      have x1' : decide (b.toNat < 128) = false := decide_eq_false (by omega)
      by_cases c2 : 191 < b.toNat
      · have x2 : decide ((191 : Int) < (b.toNat : Int)) = true := decide_eq_true (by omega)
        have x2' : decide (191 < b.toNat) = true := decide_eq_true (by omega)
        have e : refT l v0 4 = (0, 0) := refT_cont (j := j) (by have := HK.out; omega) (by rw [HB.out]; omega)
        have HE := Lib.hid e
        clear e
        go_wp2
        simp [bodyPost, results, Tryd.results65, go_sem]
        refine ⟨?_, Below.refl _ _⟩
        rw [HR.out, HE.out]; rfl
      have x2 : decide ((191 : Int) < (b.toNat : Int)) = false := decide_eq_false (by omega)
      have x2' : decide (191 < b.toNat) = false := decide_eq_false (by omega)
      obtain ⟨y, hy⟩ : ∃ y : Nat, u * 64 + (b.toNat - 128) = y := ⟨_, rfl⟩
      have hyy : (u : Int) * 64 + (b.toNat : Int) - 128 = (y : Int) := by omega
      have hyb : y ≤ 67907775 := by omega
      have HY : Hid (valK l v0 (j + 1) = y) := Lib.hid (by
        show valK l v0 j * 64 + ((l.getD (j + 1) 0).toNat - 128) = y
        rw [HV.out, HB.out, hy])
      have HC2 : Hid (contB l (j + 1) = true) := Lib.hid (by
        show (contB l j && (decide (128 ≤ (l.getD (j + 1) 0).toNat) && decide ((l.getD (j + 1) 0).toNat ≤ 191))) = true
        rw [HC.out, HB.out, decide_eq_true (by omega), decide_eq_true (by omega)]; rfl)
      clear hy
      go_wp2
      exact ⟨⟨k + 1, j + 1, y, by omega, hyb, by simp, by first | rfl | (simp; omega), Lib.hid (by rw [HK.out]), HY, HC2⟩, by simp only [intOf]; omega⟩
    · have hkn : k = 4 := by omega
      subst hkn
      have hj : j = 4 - 1 := by have := HK.out; omega
      subst hj
      have UA := Lib.hid (fun w => utf_any (u : Int) w)
      unfold UtfP at UA
      have hul : utfL (u : Int) = utfN u := by unfold utfL; rw [if_neg (by omega)]; rfl
      rw [hul] at UA
      obtain ⟨U, hU⟩ : ∃ U, utfN u = U := ⟨_, rfl⟩
      rw [hU] at UA
      obtain ⟨m, hm⟩ : ∃ m, U.length = m := ⟨_, rfl⟩
      rw [hm] at UA
      obtain ⟨X, hX⟩ : ∃ X, s.extract 0 4 = X := ⟨_, rfl⟩
      have hXd : X.data.toList = l.take 4 := by rw [← hX, ← HL0.out, Lib.extract_data]; simp
      have hT : refT l v0 4 = if U = l.take 4 then (u, 4) else (0, 0) := by
        unfold refT
        rw [show 4 - 1 = 3 from rfl, HV.out, hU]
        refine ite_pair ⟨fun h => h.2.2, fun h => ⟨by rw [HLEN.out]; omega, HC.out, h⟩⟩ _ _
      rw [← hXd] at hT
      have HT := Lib.hid hT
      have HX := Lib.hid hX
      clear hul hU hT hXd hX
      have h3 : (4 : Int) ≤ (s.size : Int) := by omega
      go_wp2_with fail
      refine wp_region_free2 (mk := fun j => [].any (Nat.beq j)) (by kernel_rfl) (by kernel_rfl) (by kernel_rfl) ?_
      iterate 1 (first | ((with_reducible refine vfree_skip rfl ?_ ?_); (focus rfl); intro K hK; go_big_quiet_op; go_big_quiet_on) | ((with_reducible refine vfree_hard ?_ ?_ ?_); (focus rfl); (focus rfl); intro K hK; go_big_quiet_op; go_big_quiet_on))
      refine vfree_soft (ι := Option Addr × Nat) (fun i => .slice i.1 (m) i.2) (fun i w' => Bs w' (fun b => w.heap.size ≤ b) i.1 (m) (U)) rfl rfl rfl (fun _ => firm_bs) (fun w' hw' => ?_) (fun i => ?_)
      · have hb := hw'.1.below
        go_simp
        refine (UA.out w').mono ?_
        rintro e w2 ⟨A', c', rfl, ho, hb2⟩
        exact ⟨hb2, (A', c'), rfl, (Bs.of_own ho).mono fun b h => by have := hb.size; omega⟩
      obtain ⟨A9, c9⟩ := i
      dsimp only
      intro K hK
      go_big_quiet_op
      go_big_quiet_on
      refine vfree_fact (.string ⟨U.toArray⟩) rfl rfl rfl (fun w' hw' => ?_) ?_
      · have hf := str_of c9 (hw'.2 1 (by kernel_rfl)).1
        clear hw'
        go_simp
      intro K hK
      go_big_quiet_op
      go_big_quiet_on
      iterate 4 (first | ((with_reducible refine vfree_skip rfl ?_ ?_); (focus rfl); intro K hK; go_big_quiet_op; go_big_quiet_on) | ((with_reducible refine vfree_hard ?_ ?_ ?_); (focus rfl); (focus rfl); intro K hK; go_big_quiet_op; go_big_quiet_on))
      refine vfree_nil ?_
      intro w5 hb5 hk5
      have HW := Lib.hid hb5
      clear hk5 hb5
      by_cases hq : U = X.data.toList
      · have hT2 : Hid (refT l v0 4 = (u, 4)) := Lib.hid (by rw [HT.out, if_pos hq])
        go_wp2
        all_goals first
          | (rename_i hx; exfalso; revert hx; simp [HX.out, Lib.toList_data, hq]; done)
          | (simp [bodyPost, results, Tryd.results65, go_sem]; exact ⟨by rw [HR.out, hT2.out]; rfl, HW.out⟩)
      · have hT2 : Hid (refT l v0 4 = (0, 0)) := Lib.hid (by rw [HT.out, if_neg hq])
        go_wp2
        all_goals first
          | (rename_i hx; exfalso; revert hx; simp [HX.out, Lib.toList_data, hq]; done)
          | (simp [bodyPost, results, Tryd.results65, go_sem]; exact ⟨by rw [HR.out, hT2.out]; rfl, HW.out⟩)
set_option maxHeartbeats 1000000 in
theorem refrune_any (s : ByteArray) (w : World) : Calls Tryd.prog 65 #[.string s] w (RuneP s.data.toList w) := by
  by_cases h0 : 0 < s.size
  · obtain ⟨b0, hb0⟩ : ∃ b0, s[0]'h0 = b0 := ⟨_, rfl⟩
    have hlt := b0.toNat_lt
    by_cases h1 : b0.toNat < 192
    · exact rrune1 s w b0 h0 hb0 (Nat.zero_le _) h1
    by_cases h2 : b0.toNat < 224
    · exact rrune2 s w b0 h0 hb0 (by omega) h2
    by_cases h3 : b0.toNat < 240
    · exact rrune3 s w b0 h0 hb0 (by omega) h3
    · exact rrune4 s w b0 h0 hb0 (by omega) (by omega)
  · have hz : s.size = 0 := by omega
    have hn : s.data.toList = [] := List.eq_nil_of_length_eq_zero (by have : s.size = s.data.toList.length := by simp
                                                                      omega)
    rw [hn]
    have d0 : ((s.size : Int) == 0) = true := by rw [hz]; rfl
    have d0' : (s.size == 0) = true := by rw [hz]; rfl
    have HR : Hid (refR [] = (0, 0)) := Lib.hid rfl
    clear hn h0 hz
    go_enter Tryd.func65, Tryd.ntmps65
    go_wp2
    simp [bodyPost, results, Tryd.results65, go_sem]
    exact ⟨by rw [HR.out]; rfl, Below.refl _ _⟩
end Go.Proofs.YtdmglpnieiiigaaDoor
