/- The page's Codes. -/
import Derived.Test.YtfbfbkgpcpidcaaC10
import Derived.Test.YtfbfbkgpcpidcaaShapes
import Derived.Deep.RegionLaw
import Derived.Deep.RegionHeldLaw
namespace Go.Proofs.Ytfbfbkgpcpidcaa
open Go.RowKit

/-- The share of some symbols. -/
def shr (ns : List Int) : List Nat → Int
  | [] => 0
  | i :: l => 2 ^ (15 - (ns.getD i 0).toNat) + shr ns l
theorem shr_append (ns : List Int) (a b : List Nat) : shr ns (a ++ b) = shr ns a + shr ns b := by
  induction a with
  | nil => simp [shr]
  | cons i a ih => simp only [List.cons_append, shr]; rw [ih]; omega
theorem shr_nonneg (ns : List Int) (a : List Nat) : 0 ≤ shr ns a := by
  induction a with
  | nil => exact Int.le_refl _
  | cons i a ih =>
    have : (0 : Int) < 2 ^ (15 - (ns.getD i 0).toNat) := Int.pow_pos (by omega)
    simp only [shr]
    omega
theorem shr_same (ns : List Int) (k : Nat) (l : List Nat) (h : ∀ i ∈ l, ns.getD i 0 = ((k + 1 : Nat) : Int)) : shr ns l = l.length * 2 ^ (15 - (k + 1)) := by
  induction l with
  | nil => simp [shr]
  | cons i l ih =>
    simp only [shr]
    rw [ih (fun j hj => h j (List.mem_cons_of_mem _ hj)), h i (List.mem_cons_self ..)]
    simp only [Int.toNat_natCast, List.length_cons]
    push_cast
    rw [Int.add_mul]
    omega
theorem blk_mem (ns : List Int) (k i : Nat) (h : i ∈ blk ns k) : ns.getD i 0 = ((k + 1 : Nat) : Int) := by
  unfold blk at h
  rw [List.mem_filter] at h
  exact of_decide_eq_true h.2
theorem shr_srt (ns : List Int) (k : Nat) : shr ns (srt ns k) = sumTo ns k := by
  induction k with
  | zero => rfl
  | succ k ih => rw [srt, shr_append, ih, shr_same ns k _ (blk_mem ns k), blk_len]; rfl
theorem srt_sorted (ns : List Int) (K : Nat) : (srt ns K).Pairwise fun a b => ns.getD a 0 ≤ ns.getD b 0 := by
  induction K with
  | zero => exact List.Pairwise.nil
  | succ K ih =>
    rw [srt, List.pairwise_append]
    refine ⟨ih, ?_, fun a ha b hb => ?_⟩
    · refine List.Pairwise.imp_of_mem (R := fun _ _ => True) (fun ha hb _ => ?_) (List.pairwise_of_forall (fun _ _ => trivial))
      rw [blk_mem ns K _ ha, blk_mem ns K _ hb]
      exact Int.le_refl _
    · have h1 := srt_mem ns K a ha
      rw [blk_mem ns K _ hb]
      omega
/-- Where a symbol stands, and what all ahead of it share. -/
theorem shr_at (ns : List Int) (p i L : Nat) (hp : (srt ns 15)[p]? = some i) (hv : ns.getD i 0 = ((L + 1 : Nat) : Int)) (hL : L < 15) :
    shr ns ((srt ns 15).take p) = (cdN ns i : Int) * 2 ^ (14 - L) ∧ shr ns ((srt ns 15).take (p + 1)) = ((cdN ns i : Int) + 1) * 2 ^ (14 - L) := by
  have hpl : p < (srt ns 15).length := by
    rcases Nat.lt_or_ge p (srt ns 15).length with h | h
    · exact h
    · rw [List.getElem?_eq_none h] at hp; cases hp
  have hg : (srt ns 15)[p] = i := by rw [List.getElem?_eq_getElem hpl] at hp; exact Option.some.inj hp
  have him := srt_mem ns 15 i (hg ▸ List.getElem_mem hpl)
  have hat := srt_at ns 15 L i hL him.1 hv
  obtain ⟨P, hP⟩ : ∃ P, (srt ns L).length + ((List.range i).filter (isN ns L)).length = P := ⟨_, rfl⟩
  rw [hP] at hat
  have hPl : P < (srt ns 15).length := by
    rcases Nat.lt_or_ge P (srt ns 15).length with h | h
    · exact h
    · rw [List.getElem?_eq_none h] at hat; cases hat
  have hpP : p = P := by
    have h2 : (srt ns 15)[P] = i := by rw [List.getElem?_eq_getElem hPl] at hat; exact Option.some.inj hat
    exact (List.getElem_inj (h₀ := hpl) (h₁ := hPl) (srt_nodup ns 15)).1 (hg.trans h2.symm)
  subst hpP
  obtain ⟨r, hr⟩ := srt_pre ns (L + 1) (14 - L)
  rw [show L + 1 + (14 - L) = 15 by omega] at hr
  have h1 : shr ns ((srt ns 15).take p) = (cdN ns i : Int) * 2 ^ (14 - L) := by
    have hlen : ((List.range i).filter (isN ns L)).length ≤ (blk ns L).length := by
      have a1 := filt_cnt ns L i (by omega)
      have a2 := blk_len ns L
      have a3 := cnt_take_le ns i (L + 1)
      omega
    rw [hr, srt, ← hP, List.append_assoc, List.take_append, List.take_of_length_le (by omega), Nat.add_sub_cancel_left, List.take_append_of_le_length hlen, shr_append, shr_srt]
    rw [shr_same ns L _ (fun j hj => blk_mem ns L j (List.mem_of_mem_take hj)), List.length_take, Nat.min_eq_left hlen, filt_cnt ns L i (by omega)]
    have hc : (cdN ns i : Int) = nx ns (L + 1) + cnt (ns.take i) (L + 1) := by
      have := nx_nonneg ns (L + 1); have := (cnt_take_le ns i (L + 1)).1
      unfold cdN; rw [hv]; simp only [Int.toNat_natCast]; omega
    have h3 := nx_sum ns L hL
    simp only [sumTo] at h3
    rw [show 15 - (L + 1) = 14 - L by omega] at h3 ⊢
    rw [hc, Int.add_mul]
    rw [Int.add_mul] at h3
    omega
  refine ⟨h1, ?_⟩
  rw [List.take_succ_eq_append_getElem hpl, shr_append, h1, hg]
  simp only [shr]
  rw [hv, Int.add_mul, Int.toNat_natCast, show 15 - (L + 1) = 14 - L by omega]
  omega
theorem shr_le (ns : List Int) (p : Nat) : shr ns ((srt ns 15).take p) ≤ sumTo ns 15 := by
  rw [← shr_srt]
  have h := shr_append ns ((srt ns 15).take p) ((srt ns 15).drop p)
  rw [List.take_append_drop] at h
  have := shr_nonneg ns ((srt ns 15).drop p)
  omega
/-- The codes, as far as the first p symbols have theirs. -/
def outTo (ns : List Int) (p : Nat) : List Int := (List.range ns.length).map fun i => if i ∈ (srt ns 15).take p then cdI ns i else 0
theorem outTo_zero (ns : List Int) : outTo ns 0 = List.replicate ns.length 0 := by
  apply List.ext_getElem
  · simp [outTo]
  · intro i h1 h2; simp [outTo]
theorem outTo_len (ns : List Int) (p : Nat) : (outTo ns p).length = ns.length := by simp [outTo]
theorem outTo_set (ns : List Int) (p i : Nat) (hp : (srt ns 15)[p]? = some i) : (outTo ns p).set i (cdI ns i) = outTo ns (p + 1) := by
  have hpl : p < (srt ns 15).length := by
    rcases Nat.lt_or_ge p (srt ns 15).length with h | h
    · exact h
    · rw [List.getElem?_eq_none h] at hp; cases hp
  have hg : (srt ns 15)[p] = i := by rw [List.getElem?_eq_getElem hpl] at hp; exact Option.some.inj hp
  have ht : (srt ns 15).take (p + 1) = (srt ns 15).take p ++ [i] := by rw [List.take_succ_eq_append_getElem hpl, hg]
  unfold outTo
  rw [ht]
  apply List.ext_getElem
  · simp
  · intro j h1 h2
    rw [List.getElem_set]
    simp only [List.getElem_map, List.getElem_range, List.mem_append, List.mem_singleton]
    by_cases h : i = j
    · subst h
      simp
    · rw [if_neg h]
      have : ¬ j = i := fun e => h e.symm
      simp [this]
theorem outTo_all (ns : List Int) (hr : right ns = true) : outTo ns (srt ns 15).length = (List.range ns.length).map (cdI ns) := by
  unfold outTo
  rw [List.take_length]
  refine List.map_congr_left fun i hi => ?_
  have hil := List.mem_range.1 hi
  by_cases h : i ∈ srt ns 15
  · rw [if_pos h]
  · rw [if_neg h]
    obtain ⟨q, hq, hq15⟩ := right_at ns hr i hil
    by_cases h0 : q = 0
    · unfold cdI cdOf
      rw [hq, if_neg (by omega)]
      rfl
    · exfalso
      apply h
      have := srt_at ns 15 (q - 1) i (by omega) hil (by rw [hq]; congr 1; omega)
      exact List.mem_of_getElem? this
theorem srt_getD (ns : List Int) (p : Nat) (h : p < (srt ns 15).length) : ∃ i, (srt ns 15)[p]? = some i ∧ (natI (srt ns 15)).getD p 0 = (i : Int) := by
  refine ⟨(srt ns 15)[p], List.getElem?_eq_getElem h, ?_⟩
  unfold natI
  rw [List.getD_eq_getElem?_getD, List.getElem?_map, List.getElem?_eq_getElem h]
  rfl
def Cref (ns : List Int) (n : Nat) (w : World) (e : Ending) (w' : World) : Prop :=
  ∃ g, e = .returned (.slice (some ⟨g, 0, none⟩) n n) ∧ OwnAt w' w.heap.size 32 .u32 g n n ((List.range n).map (cdI ns)) ∧ Below w.heap.size w w'
theorem srt15_le (ns : List Int) : (srt ns 15).length ≤ 15 * ns.length := srt_le ns 15
theorem dbl (c n s : Int) (k : Nat) (hk : k < 15) (h : c * 2 ^ (15 - k) = s) : c * 2 * 2 ^ (15 - (k + 1)) = s := by
  rw [← h, Int.mul_assoc]
  congr 1
  rw [show 15 - k = (15 - (k + 1)) + 1 by omega, Int.pow_succ, Int.mul_comm]
theorem code_bd (c s : Int) (k : Nat) (hk : k ≤ 15) (h : c * 2 ^ (15 - k) = s) (hs : s ≤ 32768) (h0 : 0 ≤ s) : 0 ≤ c ∧ c ≤ 2 ^ k := by
  have hp : (0 : Int) < 2 ^ (15 - k) := Int.pow_pos (by omega)
  have h2 : (2 : Int) ^ k * 2 ^ (15 - k) = 32768 := by rw [← Int.pow_add, show k + (15 - k) = 15 by omega]; rfl
  constructor
  · by_cases hc : 0 ≤ c
    · exact hc
    · have : c * 2 ^ (15 - k) < 0 := Int.mul_neg_of_neg_of_pos (by omega) hp
      omega
  · have : c * 2 ^ (15 - k) ≤ 2 ^ k * 2 ^ (15 - k) := by omega
    exact Int.le_of_mul_le_mul_right this hp
set_option maxHeartbeats 2000000 in
theorem cref_any (A : Option Addr) (n c : Nat) (ns : List Int) (S : Nat → Prop) (w : World) (hL : Lst w S 1 A n (ns.map (Value.int .i64))) (hs : ∀ b, S b → b < w.heap.size) (hb : Big ns) (hl : n ≤ 1000000)
    (hr : right ns = true) (hk : sumTo ns 15 ≤ 32768) : Calls Try.prog 13 #[.slice A n c] w (Cref ns n w) := by
  have hn : ns.length = n := by have := hL.len; simpa using this
  subst hn
  have HL := Lib.hid hL
  have HS := Lib.hid hs
  have HBG := Lib.hid hb
  have HR := Lib.hid hr
  have HM := Lib.hid hk
  clear hL hb hs hr hk
  obtain ⟨i0, hi, hz0, hz1, hz2⟩ := info_parts info32
  simp only at hz0 hz1 hz2
  go_enter Try.func13, Try.ntmps13
  go_wp2_with (at_make
               go_loud (refine wpList_make_full _ rfl _ _ 25 rfl w.heap.size 32 i0 (.int .u32 0) 1 Try.underlying25 hi hz0 hz1 .i64 .i64 (ns.length : Nat) (ns.length : Nat) ns.length rfl rfl (by simp) (by simp) (by rw [hz2]; omega) (by unfold maxLen; omega) (Nat.le_refl _) ?_)
               intro w1 hown hg
               rw [toList_made_int] at hown
               have HO := Lib.hid hown
               have HB := Lib.hid ((Below.refl w.heap.size w).grown hg (Nat.le_refl _) (fun _ h => by cases h))
               clear hown hg)
  refine (sref_any A ns.length c ns _ w1 (HL.out.below HB.out) HBG.out hl).mono ?_
  rintro e w2 ⟨A2, c2, rfl, ho2, hb2⟩
  have HW2 := Lib.hid (HB.out.trans (hb2.mono HB.out.size))
  have hlr := (Lst.of_own ho2)
  have HO2 : Hid (OwnAt w2 w.heap.size 32 .u32 w.heap.size ns.length ns.length (outTo ns 0)) := Lib.hid (by
    have h := HO.out
    rw [outTo_zero]
    exact OwnAt.below' h hb2)
  have hw1s : w.heap.size < w1.heap.size := by
    have h := HO.out
    have := (OwnAt.lt (show OwnAt w1 _ 32 .u32 w.heap.size ns.length ns.length (List.replicate ns.length 0) from h)).2
    exact this
  have HLR : Hid (Lst w2 (fun b => w1.heap.size ≤ b) 1 A2 (srt ns 15).length ((natI (srt ns 15)).map (Value.int .i64))) := Lib.hid hlr
  have hN15 := srt15_le ns
  obtain ⟨N, hN⟩ : ∃ N, (srt ns 15).length = N := ⟨_, rfl⟩
  rw [hN] at HLR hN15
  rw [hN]
  have HN := Lib.hid hN
  have HW1S : Hid (w.heap.size < w1.heap.size) := Lib.hid hw1s
  clear ho2 hb2 hlr hN HO HB hw1s
  go_wp2
  go_loopw [5, 6, 7] (fun cd nn i wr => ∃ (p L y : Nat), p ≤ N ∧ i = .int .i64 (p : Nat) ∧ nn = .int .i64 (L : Nat) ∧ cd = .int .u32 (y : Nat) ∧ L ≤ 15 ∧ Hid ((y : Int) * 2 ^ (15 - L) = shr ns ((srt ns 15).take p)) ∧ Hid (∀ q i, p ≤ q → (srt ns 15)[q]? = some i → (L : Int) ≤ ns.getD i 0) ∧ Hid (OwnAt wr w.heap.size 32 .u32 w.heap.size ns.length ns.length (outTo ns p)) ∧ Hid (Lst wr (fun b => w1.heap.size ≤ b) 1 A2 N ((natI (srt ns 15)).map (Value.int .i64))) ∧ Hid (Below w.heap.size w wr)) (fun _ _ i _ => N - (intOf i).toNat)
  case atStart => exact ⟨0, 0, 0, Nat.zero_le _, rfl, rfl, rfl, by omega, Lib.hid (by simp [shr]), Lib.hid (fun q i _ h => by have := srt_mem ns 15 i (List.mem_of_getElem? h); omega), HO2, HLR, HW2⟩
  case round =>
    obtain ⟨p, L, y, hp, rfl, rfl, rfl, hL15, HY, HQ, HO, HLR, HW⟩ := hrel
    by_cases hlt : p < N
    · obtain ⟨i, hsi, hsd⟩ := srt_getD ns p (by rw [HN.out]; exact hlt)
      have him := srt_mem ns 15 i (List.mem_of_getElem? hsi)
      obtain ⟨v, hv⟩ := Int.eq_ofNat_of_zero_le (show 0 ≤ ns.getD i 0 by omega)
      have hil : i < ns.length := him.1
      have hv1 : 1 ≤ v := by omega
      have hv15 : v ≤ 15 := by omega
      have hLv : L ≤ v := by have := HQ.out p i (Nat.le_refl _) hsi; omega
      obtain ⟨b2, o2, rfl, _, _, hc2⟩ := HLR.out.int_at hlt
      obtain ⟨b, off, rfl, _, _, hc⟩ := (HL.out.below HW.out).int_at hil
      rw [hsd] at hc2
      rw [hv] at hc
      have HSI := Lib.hid hsi
      have HV := Lib.hid hv
      have hsh := shr_le ns p
      have hsm := HM.out
      have hsn := shr_nonneg ns ((srt ns 15).take p)
      have hs1 : shr ns ((srt ns 15).take p) ≤ 32768 := by omega
      have HS1 := Lib.hid hs1
      have HS0 := Lib.hid hsn
      have hyb : (y : Int) ≤ 32768 := by
        have h1 := (code_bd _ _ L hL15 HY.out hs1 hsn).2
        have h2 := two_pow_le L (by omega)
        omega
      clear hsi hv him hsh hsm hsn hs1 hsd
      go_wp2
      go_loop [5, 6] (fun cd nn => ∃ (L y : Nat), L ≤ v ∧ nn = .int .i64 (L : Nat) ∧ cd = .int .u32 (y : Nat) ∧ Hid ((y : Int) * 2 ^ (15 - L) = shr ns ((srt ns 15).take p)) ∧ (y : Int) ≤ 32768) (fun _ nn => v - (intOf nn).toNat)
      case atStart => exact ⟨L, y, hLv, rfl, rfl, HY, hyb⟩
      case round =>
        obtain ⟨L, y, hL, rfl, rfl, HY, hyb⟩ := hrel
        by_cases hlv : L < v
        · have HYN := Lib.hid (dbl (y : Int) 0 _ L (by omega) HY.out)
          have hyn : (y : Int) * 2 ≤ 32768 := by
            have h1 := (code_bd _ _ (L + 1) (by omega) HYN.out HS1.out HS0.out).2
            have h2 := two_pow_le (L + 1) (by omega)
            omega
          go_wp2
          go_round
          case rel => exact ⟨L + 1, y * 2, by omega, by go_num, by go_num, Lib.hid (by rw [← HYN.out]; push_cast; rfl), by omega⟩
          case measure => simp [intOf]; omega
        · obtain rfl : L = v := by omega
          obtain ⟨k, rfl⟩ : ∃ k, L = k + 1 := ⟨L - 1, by omega⟩
          obtain ⟨s1, s2⟩ := shr_at ns p i k HSI.out HV.out (by omega)
          have hcd : y = cdN ns i := by
            have h1 := HY.out
            rw [s1, show 15 - (k + 1) = 14 - k by omega] at h1
            have h2 : (y : Int) = (cdN ns i : Int) := Int.eq_of_mul_eq_mul_right (by have : (0 : Int) < 2 ^ (14 - k) := Int.pow_pos (by omega); omega) h1
            omega
          have HS2 : Hid (((y + 1 : Nat) : Int) * 2 ^ (15 - (k + 1)) = shr ns ((srt ns 15).take (p + 1))) := Lib.hid (by rw [s2, hcd, show 15 - (k + 1) = 14 - k by omega]; push_cast; rfl)
          have HCV : Hid (cdI ns i = ((revN y (k + 1) : Nat) : Int)) := Lib.hid (by unfold cdI cdOf; rw [HV.out, if_pos (by omega), hcd]; rfl)
          have HNX : Hid (∀ q j, p + 1 ≤ q → (srt ns 15)[q]? = some j → ((k + 1 : Nat) : Int) ≤ ns.getD j 0) := Lib.hid (by
            intro q j hq hj
            have hql : q < (srt ns 15).length := by
              rcases Nat.lt_or_ge q (srt ns 15).length with h | h
              · exact h
              · rw [List.getElem?_eq_none h] at hj; cases hj
            have hpl : p < (srt ns 15).length := by omega
            have := (List.pairwise_iff_getElem.1 (srt_sorted ns 15)) p q hpl hql (by omega)
            have e1 : (srt ns 15)[p] = i := by have := HSI.out; rw [List.getElem?_eq_getElem hpl] at this; exact Option.some.inj this
            have e2 : (srt ns 15)[q] = j := by rw [List.getElem?_eq_getElem hql] at hj; exact Option.some.inj hj
            rw [e1, e2, HV.out] at this
            exact this)
          have HSet := Lib.hid (outTo_set ns p i HSI.out)
          have HOl := HO.out.lt
          have f2 := HO.out.free i
          have c3 := HO.out.cell hil
          obtain ⟨u, hu⟩ : ∃ u, (outTo ns p).getD i 0 = u := ⟨_, rfl⟩
          rw [hu] at c3
          obtain ⟨v, hv⟩ : ∃ v, k + 1 = v := ⟨_, rfl⟩
          rw [hv] at HS2 HCV HNX hL hlv hv15 hv1 hc
          have hb2 : b2 < wr.heap.size := (cell_somewhere hc2).1
          have HREV : Hid (∀ w', Calls Try.prog 16 #[.int .u32 y, .int .i64 v] w' fun e w'' => e = .returned (.int .u32 (revN y v : Nat)) ∧ Below w'.heap.size w' w'') := Lib.hid (fun w' => by
            have h := rref_any y (v : Int) w' (by omega)
            rwa [clampK_eq v (by omega)] at h)
          obtain ⟨R, hR⟩ : ∃ R, revN y v = R := ⟨_, rfl⟩
          rw [hR] at HREV HCV
          simp only [hv]
          clear hu hcd s1 s2 hv hR HSI HV
          go_wp2
          go_region_law (first
            | (go_simp
               go_at_call 16
               refine (HREV.out _).mono ?_
               rintro e wx ⟨rfl, hbx⟩
               have hbx : Below wr.heap.size wr wx := ((Below.refl wr.heap.size wr).drew).trans hbx
               have HBX : Hid (Below wr.heap.size wr wx) := Lib.hid hbx
               have cx2 : wx.cell? ⟨b2, o2 + p, none⟩ = some (.int .i64 (i : Nat)) := (hbx.cell (p := ⟨b2, o2 + p, none⟩) hb2).trans hc2
               have fx2 : wx.frozen? ⟨w.heap.size, i, none⟩ = false := (hbx.frozen (p := ⟨w.heap.size, i, none⟩) HOl.2).trans f2
               have cx3 : wx.cell? ⟨w.heap.size, i, none⟩ = some (.int .u32 u) := (hbx.cell (p := ⟨w.heap.size, i, none⟩) HOl.2).trans c3
               clear hbx))
          all_goals
            go_wp2
            go_round
            case rel =>
              refine ⟨p + 1, v, y + 1, by omega, by go_num, rfl, by go_num, hv15, HS2, HNX, Lib.hid ?_, Lib.hid ?_, Lib.hid ?_⟩
              · have := (OwnAt.below' HO.out HBX.out).put i (cdI ns i)
                rw [HSet.out, HCV.out] at this
                exact this
              · refine (HLR.out.below HBX.out).put (p := ⟨w.heap.size, i, none⟩) _ ?_
                intro b hb e
                subst e
                have := HW1S.out
                simp only at hb
                omega
              · exact (HW.out.trans (HBX.out.mono HW.out.size)).setCell (p := ⟨w.heap.size, i, none⟩) (by have := HOl.1; exact this) _
            case measure => simp [intOf]; omega
    · obtain rfl : p = N := by omega
      have HF : Hid (outTo ns p = (List.range ns.length).map (cdI ns)) := Lib.hid (by rw [← HN.out]; exact outTo_all ns HR.out)
      go_wp2
      go_ret
      exact ⟨w.heap.size, rfl, HF.out ▸ HO.out, HW.out⟩
end Go.Proofs.Ytfbfbkgpcpidcaa
