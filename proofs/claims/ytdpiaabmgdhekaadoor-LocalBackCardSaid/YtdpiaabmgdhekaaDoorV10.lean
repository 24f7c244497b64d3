/- Headers that are written and read. -/
import Derived.Test.YtdpiaabmgdhekaaDoorV9
namespace Go.Proofs.YtdpiaabmgdhekaaDoor
open Go.RowKit

/-- what is written as E, LE octets, is read as `want`; less of it is not read -/
def Good (want : Value) (E : List UInt8) (LE : Nat) : Prop :=
  (30 ≤ LE ∧ LE ≤ 305 ∧ E.length = LE) ∧
  (∀ (w : World) (A : Option Addr) (n cA : Nat) (rest : List UInt8) (S : Nat → Prop), Env w → Bs w S A n (E ++ rest) → n ≤ 1000 → n ≤ cA → cA ≤ 9223372036854775807 →
    Calls Tryd.prog 16 #[.slice A n cA, .int .i64 0] w fun e w' => e = .returned (.tuple #[want, .int .i64 (LE : Nat), .int .i64 0]) ∧ Below w.heap.size w w') ∧
  (∀ (w : World) (A : Option Addr) (n cA : Nat) (S : Nat → Prop), Env w → Bs w S A n (E.take n) → n < LE → n ≤ cA → cA ≠ 0 →
    ∃ K : Int, K ≠ 0 ∧ Calls Tryd.prog 16 #[.slice A n cA, .int .i64 0] w fun e w' => e = .returned (.tuple #[.agg #[.string ⟨#[]⟩, .int .i64 0, .int .i64 0, .int .i64 0, .int .i64 0, .int .i64 0, .int .i64 0, .int .i64 0, .int .u32 0, .int .i64 0, .int .i64 0, .bool false, .bool false], .int .i64 0, .int .i64 K]) ∧ Below w.heap.size w w')
set_option maxRecDepth 100000 in
theorem good_slim (s : ByteArray) (y mo d h mi se : Int) (me c p z DT CK FL : Nat) (lt : Bool) (hs : s.size ≤ 255) (hc : c < 4294967296) (hk : codeH s (rightB y mo d h mi se) me p z = 0) (ht : rightB y mo d h mi se = true) (hD : dateI y mo d = (DT : Nat)) (hC : clockI h mi se = (CK : Nat)) (hF : flagsH s lt = (FL : Nat)) (hD2 : DT < 65536) (hC2 : CK < 65536) (hF2 : FL < 65536) (hp : p ≤ 33554432) (hz : z ≤ 16777216) (hme : me < 65536) (hz0 : lt = true → c = 0 ∧ p = 0 ∧ z = 0) : Good (.agg #[.string s, .int .i64 y, .int .i64 mo, .int .i64 d, .int .i64 h, .int .i64 mi, .int .i64 se, .int .i64 (me : Nat), .int .u32 (c : Nat), .int .i64 (p : Nat), .int .i64 (z : Nat), .bool false, .bool lt]) (leB 67324752 4 ++ catK 2 [20, FL, me, CK, DT] ++ catK 4 [c, p, z] ++ leB s.size 2 ++ leB 0 2 ++ s.data.toList) (30 + s.size) := by
  obtain ⟨E, hEE⟩ : ∃ E, (leB 67324752 4 ++ catK 2 [20, FL, me, CK, DT] ++ catK 4 [c, p, z] ++ leB s.size 2 ++ leB 0 2 ++ s.data.toList) = E := ⟨_, rfl⟩
  have hlE : E.length = 30 + s.size := by
    have hsz : s.data.toList.length = s.size := rfl
    have l2 : ∀ a b c d e : Nat, (catK 2 [a, b, c, d, e]).length = 10 := fun _ _ _ _ _ => by simp [catK, leB_len]
    have l4 : ∀ a b c : Nat, (catK 4 [a, b, c]).length = 12 := fun _ _ _ => by simp [catK, leB_len]
    rw [← hEE]
    simp only [List.length_append, leB_len, l2, l4, hsz]
    try omega
  rw [hEE]
  refine ⟨⟨by omega, by omega, hlE⟩, fun w A n cA rest S hE hb hn hnc hcc => ?_, fun w A n cA S hE hb hn hnc hca => ?_⟩
  · have hln := hb.len
    rw [List.length_append, hlE] at hln
    have hm : 30 + s.size ≤ min n 305 := by omega
    refine parse0_ok A n cA _ S w hE hb hn hnc hcc (by omega) (min n 305) rfl (30 + s.size) s y mo d h mi se me c p z false lt (by omega) fun g A2 cap w' hE' hR h1 h2 h3 => ?_
    refine enc_read_slim s y mo d h mi se me c p z DT CK FL lt (rest.take (min n 305 - (30 + s.size))) _ (min n 305) ?_ ?_ (by omega) hs hc hk ht hD hC hF hD2 hC2 hF2 hp hz hme hz0 g A2 cap w' hE' hR h1 h2 h3
    · rw [hEE, List.take_append, hlE, List.take_of_length_le (by omega)]
    · rw [List.length_take, List.length_append, hlE]; omega
  · have hmm : min n 305 = n := by omega
    obtain ⟨q1, q2⟩ := enc_num_slim s me c p z DT CK FL [] E (by rw [← hEE]; simp) hs hc hD2 hC2 hF2 hp hz hme
    have hbt : (E.take n).take n = E.take n := by rw [List.take_take, Nat.min_self]
    obtain ⟨K, L, s', y', mo', d', h', mi', se', me', c', p', z', wd', lt', hK, hrd⟩ := pre_read (E.take n) n s.size false (by omega)
      (fun h28 => by rw [take_drop_take _ _ _ _ (by omega), q2]) (fun h28 => by rw [take_drop_take _ _ _ _ (by omega), q1]; rfl) (by simp; omega)
    refine ⟨K, hK, parse0_bad A n cA _ S w hE hb (by omega) hnc hca n hmm K L _ hK (by rw [hbt]; exact hrd)⟩
set_option maxRecDepth 100000 in
theorem good_wide (s : ByteArray) (y mo d h mi se : Int) (me c p z DT CK FL : Nat) (lt : Bool) (hs : s.size ≤ 255) (hc : c < 4294967296) (hk : codeH s (rightB y mo d h mi se) me p z = 0) (ht : rightB y mo d h mi se = true) (hD : dateI y mo d = (DT : Nat)) (hC : clockI h mi se = (CK : Nat)) (hF : flagsH s lt = (FL : Nat)) (hD2 : DT < 65536) (hC2 : CK < 65536) (hF2 : FL < 65536) (hp : p ≤ 33554432) (hz : z ≤ 16777216) (hme : me < 65536) (hz0 : lt = true → c = 0 ∧ p = 0 ∧ z = 0) : Good (.agg #[.string s, .int .i64 y, .int .i64 mo, .int .i64 d, .int .i64 h, .int .i64 mi, .int .i64 se, .int .i64 (me : Nat), .int .u32 (c : Nat), .int .i64 (p : Nat), .int .i64 (z : Nat), .bool true, .bool lt]) (leB 67324752 4 ++ catK 2 [45, FL, me, CK, DT] ++ catK 4 [c, 4294967295, 4294967295] ++ leB s.size 2 ++ leB 20 2 ++ s.data.toList ++ leB 1 2 ++ leB 16 2 ++ leB z 8 ++ leB p 8) (s.size + 50) := by
  obtain ⟨E, hEE⟩ : ∃ E, (leB 67324752 4 ++ catK 2 [45, FL, me, CK, DT] ++ catK 4 [c, 4294967295, 4294967295] ++ leB s.size 2 ++ leB 20 2 ++ s.data.toList ++ leB 1 2 ++ leB 16 2 ++ leB z 8 ++ leB p 8) = E := ⟨_, rfl⟩
  have hlE : E.length = s.size + 50 := by
    have hsz : s.data.toList.length = s.size := rfl
    have l2 : ∀ a b c d e : Nat, (catK 2 [a, b, c, d, e]).length = 10 := fun _ _ _ _ _ => by simp [catK, leB_len]
    have l4 : ∀ a b c : Nat, (catK 4 [a, b, c]).length = 12 := fun _ _ _ => by simp [catK, leB_len]
    rw [← hEE]
    simp only [List.length_append, leB_len, l2, l4, hsz]
    try omega
  rw [hEE]
  refine ⟨⟨by omega, by omega, hlE⟩, fun w A n cA rest S hE hb hn hnc hcc => ?_, fun w A n cA S hE hb hn hnc hca => ?_⟩
  · have hln := hb.len
    rw [List.length_append, hlE] at hln
    have hm : s.size + 50 ≤ min n 305 := by omega
    refine parse0_ok A n cA _ S w hE hb hn hnc hcc (by omega) (min n 305) rfl (s.size + 50) s y mo d h mi se me c p z true lt (by omega) fun g A2 cap w' hE' hR h1 h2 h3 => ?_
    refine enc_read_wide s y mo d h mi se me c p z DT CK FL lt (rest.take (min n 305 - (s.size + 50))) _ (min n 305) ?_ ?_ (by omega) hs hc hk ht hD hC hF hD2 hC2 hF2 hp hz hme hz0 g A2 cap w' hE' hR h1 h2 h3
    · rw [hEE, List.take_append, hlE, List.take_of_length_le (by omega)]
    · rw [List.length_take, List.length_append, hlE]; omega
  · have hmm : min n 305 = n := by omega
    obtain ⟨q1, q2⟩ := enc_num_wide s me c p z DT CK FL [] E (by rw [← hEE]; simp) hs hc hD2 hC2 hF2 hp hz hme
    have hbt : (E.take n).take n = E.take n := by rw [List.take_take, Nat.min_self]
    obtain ⟨K, L, s', y', mo', d', h', mi', se', me', c', p', z', wd', lt', hK, hrd⟩ := pre_read (E.take n) n s.size true (by omega)
      (fun h28 => by rw [take_drop_take _ _ _ _ (by omega), q2]) (fun h28 => by rw [take_drop_take _ _ _ _ (by omega), q1]; rfl) (by simp; omega)
    refine ⟨K, hK, parse0_bad A n cA _ S w hE hb (by omega) hnc hca n hmm K L _ hK (by rw [hbt]; exact hrd)⟩
theorem code_zero {s : ByteArray} {tr : Bool} {me : Nat} {p z : Int} (h : codeH s tr me p z = 0) : codeH s tr me 0 0 = 0 := by
  obtain ⟨h1, h2, h3, h4, h5, h6, h7⟩ := codeH_zero h
  refine codeH_ok h1 h2 ?_ ?_
  · rcases h3 with h3 | h3 <;> rw [h3] <;> rfl
  · rcases h3 with h3 | h3 <;> rw [h3] <;> rfl
/-- what a header that may be is written as, and what that is read as -/
def Turn (s : ByteArray) (y mo d h mi se : Int) (me c p z : Nat) (wd lt : Bool) (E : List UInt8) (LE : Nat) : Prop :=
  (∀ w, Env w → Calls Tryd.prog 9 #[.agg #[.string s, .int .i64 y, .int .i64 mo, .int .i64 d, .int .i64 h, .int .i64 mi, .int .i64 se, .int .i64 (me : Nat), .int .u32 (c : Nat), .int .i64 (p : Nat), .int .i64 (z : Nat), .bool wd, .bool lt]] w (EncP LE E w)) ∧ Good (.agg #[.string s, .int .i64 y, .int .i64 mo, .int .i64 d, .int .i64 h, .int .i64 mi, .int .i64 se, .int .i64 (me : Nat), .int .u32 ((if lt = true then 0 else c : Nat) : Int), .int .i64 ((if lt = true then 0 else p : Nat) : Int), .int .i64 ((if lt = true then 0 else z : Nat) : Int), .bool wd, .bool lt]) E LE
theorem turn_any (s : ByteArray) (y mo d h mi se : Int) (me c p z : Nat) (wd lt : Bool) (hc : c < 4294967296) (hk : codeH s (rightB y mo d h mi se) me p z = 0) : ∃ E LE, Turn s y mo d h mi se me c p z wd lt E LE := by
  obtain ⟨h1, h2, h3, h4, h5, h6, h7⟩ := codeH_zero hk
  have hs := nameOk_size h1
  have hk0 := code_zero hk
  obtain ⟨DT, hD⟩ : ∃ DT : Nat, dateI y mo d = DT := ⟨(dateI y mo d).toNat, by have := dateI_bd (RightT.of h2); omega⟩
  obtain ⟨CK, hC⟩ : ∃ CK : Nat, clockI h mi se = CK := ⟨(clockI h mi se).toNat, by have := clockI_bd (RightT.of h2); omega⟩
  obtain ⟨FL, hF⟩ : ∃ FL : Nat, flagsH s lt = FL := ⟨(flagsH s lt).toNat, by have := flagsH_bd s lt; omega⟩
  have hD2 : DT < 65536 := by have := dateI_bd (RightT.of h2); omega
  have hC2 : CK < 65536 := by have := clockI_bd (RightT.of h2); omega
  have hF2 : FL < 65536 := by have := flagsH_bd s lt; omega
  have hme : me < 65536 := by omega
  cases wd
  · cases lt
    · exact ⟨_, _, fun w hE => encode_slim s y mo d h mi se me c p z DT CK FL w hE hs hc hk h2 hD hC hF hD2 hC2 hF2 (by omega) (by omega) hme, good_slim s y mo d h mi se me c p z DT CK FL false hs hc hk h2 hD hC hF hD2 hC2 hF2 (by omega) (by omega) hme (fun h => by cases h)⟩
    · exact ⟨_, _, fun w hE => encode_slim_later s y mo d h mi se me c p z DT CK FL w hE hs hc hk h2 hD hC hF hD2 hC2 hF2 (by omega) (by omega) hme, good_slim s y mo d h mi se me 0 0 0 DT CK FL true hs (by omega) hk0 h2 hD hC hF hD2 hC2 hF2 (by omega) (by omega) hme (fun _ => ⟨rfl, rfl, rfl⟩)⟩
  · have e : 50 + s.size = s.size + 50 := by omega
    cases lt
    · exact ⟨_, s.size + 50, fun w hE => e ▸ encode_wide s y mo d h mi se me c p z DT CK FL w hE hs hc hk h2 hD hC hF hD2 hC2 hF2 (by omega) (by omega) hme, good_wide s y mo d h mi se me c p z DT CK FL false hs hc hk h2 hD hC hF hD2 hC2 hF2 (by omega) (by omega) hme (fun h => by cases h)⟩
    · exact ⟨_, s.size + 50, fun w hE => e ▸ encode_wide_later s y mo d h mi se me c p z DT CK FL w hE hs hc hk h2 hD hC hF hD2 hC2 hF2 (by omega) (by omega) hme, good_wide s y mo d h mi se me 0 0 0 DT CK FL true hs (by omega) hk0 h2 hD hC hF hD2 hC2 hF2 (by omega) (by omega) hme (fun _ => ⟨rfl, rfl, rfl⟩)⟩
end Go.Proofs.YtdpiaabmgdhekaaDoor
