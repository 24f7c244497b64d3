/- A header whose record bytes begin with, or none: what Read and the page make of any bytes. -/
import Derived.Test.YtdpiaabmgdhekaaDoorW3
import Derived.Test.YtdpiaabmgdhekaaDoorW4
import Derived.Test.YtdpiaabmgdhekaaDoorW5
import Derived.Test.YtdpiaabmgdhekaaDoorV9
namespace Go.Proofs.YtdpiaabmgdhekaaDoor
open Go.RowKit

structure Ok (s : ByteArray) (y mo d h mi se : Int) (me c p z DT CK FL : Nat) (lt : Bool) : Prop where
  hs : s.size ≤ 255
  h0 : s.size ≠ 0
  hc : c < 4294967296
  hk : codeH s (rightB y mo d h mi se) me p z = 0
  ht : rightB y mo d h mi se = true
  hD : dateI y mo d = (DT : Nat)
  hC : clockI h mi se = (CK : Nat)
  hF : flagsH s lt = (FL : Nat)
  hD2 : DT < 65536
  hC2 : CK < 65536
  hF2 : FL < 65536
  hp : p ≤ 33554432
  hz : z ≤ 16777216
  hme : me < 65536
  hz0 : lt = true → c = 0 ∧ p = 0 ∧ z = 0
theorem ok_of (s : ByteArray) (y mo d h mi se : Int) (me c p z : Nat) (lt : Bool) (hc : c < 4294967296) (hk : codeH s (rightB y mo d h mi se) me p z = 0) (hz0 : lt = true → c = 0 ∧ p = 0 ∧ z = 0) : ∃ DT CK FL, Ok s y mo d h mi se me c p z DT CK FL lt := by
  obtain ⟨h1, h2, h3, h4, h5, h6, h7⟩ := codeH_zero hk
  have hs := nameOk_size h1
  obtain ⟨DT, hD⟩ : ∃ DT : Nat, dateI y mo d = DT := ⟨(dateI y mo d).toNat, by have := dateI_bd (RightT.of h2); omega⟩
  obtain ⟨CK, hC⟩ : ∃ CK : Nat, clockI h mi se = CK := ⟨(clockI h mi se).toNat, by have := clockI_bd (RightT.of h2); omega⟩
  obtain ⟨FL, hF⟩ : ∃ FL : Nat, flagsH s lt = FL := ⟨(flagsH s lt).toNat, by have := flagsH_bd s lt; omega⟩
  have hD2 : DT < 65536 := by have := dateI_bd (RightT.of h2); omega
  have hC2 : CK < 65536 := by have := clockI_bd (RightT.of h2); omega
  have hF2 : FL < 65536 := by have := flagsH_bd s lt; omega
  have h0 : s.size ≠ 0 := fun h => by rw [nameOk_empty h] at h1; cases h1
  exact ⟨DT, CK, FL, hs, h0, hc, hk, h2, hD, hC, hF, hD2, hC2, hF2, by omega, by omega, by omega, hz0⟩
def ES (s : ByteArray) (me c p z DT CK FL : Nat) : List UInt8 := leB 67324752 4 ++ catK 2 [20, FL, me, CK, DT] ++ catK 4 [c, p, z] ++ leB s.size 2 ++ leB 0 2 ++ s.data.toList
def EW (s : ByteArray) (me c p z DT CK FL : Nat) : List UInt8 := leB 67324752 4 ++ catK 2 [45, FL, me, CK, DT] ++ catK 4 [c, 4294967295, 4294967295] ++ leB s.size 2 ++ leB 20 2 ++ s.data.toList ++ leB 1 2 ++ leB 16 2 ++ leB z 8 ++ leB p 8
theorem ES_len (s : ByteArray) (me c p z DT CK FL : Nat) : (ES s me c p z DT CK FL).length = 30 + s.size := by
  have hsz : s.data.toList.length = s.size := rfl
  simp [ES, catK, leB_len, hsz]
  omega
theorem EW_len (s : ByteArray) (me c p z DT CK FL : Nat) : (EW s me c p z DT CK FL).length = s.size + 50 := by
  have hsz : s.data.toList.length = s.size := rfl
  simp [EW, catK, leB_len, hsz]
  omega
def Reads (bs : List UInt8) (n : Nat) (K : Int) (cs : Array Value) (L : Nat) : Prop :=
  ∀ (g : Nat) (A : Option Addr) (cap : Nat) (w : World), Env w → Rdr w g A n cap bs 0 → n ≤ cap → cap ≤ 9223372036854775807 → 3 ≤ g → Calls Tryd.prog 21 #[.pointer (some ⟨g, 0, none⟩)] w (RdH w g A n cap L K (.agg cs))
def Page (bs : List UInt8) (n : Nat) (cs : Array Value) (L : Nat) : Prop :=
  ∀ (A : Option Addr) (c : Nat) (S : Nat → Prop) (w : World), (∀ b, S b → b < w.heap.size) → Bs w S A n bs → n ≤ c → Calls Tryd.prog 17 #[.slice A n c] w (RPost w (.agg cs) L)
def Slim (bs : List UInt8) : Prop := ∃ s y mo d h mi se me c p z DT CK FL lt, Ok s y mo d h mi se me c p z DT CK FL lt ∧ ∃ rest, bs = ES s me c p z DT CK FL ++ rest
def Wide (bs : List UInt8) : Prop := ∃ s y mo d h mi se me c p z DT CK FL lt, Ok s y mo d h mi se me c p z DT CK FL lt ∧ ∃ rest, bs = EW s me c p z DT CK FL ++ rest
theorem reads_slim (s : ByteArray) (y mo d h mi se : Int) (me c p z DT CK FL : Nat) (lt : Bool) (o : Ok s y mo d h mi se me c p z DT CK FL lt) (rest bs : List UInt8) (n : Nat) (hbs : bs = ES s me c p z DT CK FL ++ rest) (hlen : bs.length = n) (hn : n ≤ 1000) : Reads bs n 0 #[.string s, .int .i64 y, .int .i64 mo, .int .i64 d, .int .i64 h, .int .i64 mi, .int .i64 se, .int .i64 (me : Nat), .int .u32 (c : Nat), .int .i64 (p : Nat), .int .i64 (z : Nat), .bool false, .bool lt] (30 + s.size) :=
  fun g A cap w hE hR hnc hcc hg3 => enc_read_slim s y mo d h mi se me c p z DT CK FL lt rest bs n hbs hlen hn o.hs o.hc o.hk o.ht o.hD o.hC o.hF o.hD2 o.hC2 o.hF2 o.hp o.hz o.hme o.hz0 g A cap w hE hR hnc hcc hg3
theorem reads_wide (s : ByteArray) (y mo d h mi se : Int) (me c p z DT CK FL : Nat) (lt : Bool) (o : Ok s y mo d h mi se me c p z DT CK FL lt) (rest bs : List UInt8) (n : Nat) (hbs : bs = EW s me c p z DT CK FL ++ rest) (hlen : bs.length = n) (hn : n ≤ 1000) : Reads bs n 0 #[.string s, .int .i64 y, .int .i64 mo, .int .i64 d, .int .i64 h, .int .i64 mi, .int .i64 se, .int .i64 (me : Nat), .int .u32 (c : Nat), .int .i64 (p : Nat), .int .i64 (z : Nat), .bool true, .bool lt] (s.size + 50) :=
  fun g A cap w hE hR hnc hcc hg3 => enc_read_wide s y mo d h mi se me c p z DT CK FL lt rest bs n hbs hlen hn o.hs o.hc o.hk o.ht o.hD o.hC o.hF o.hD2 o.hC2 o.hF2 o.hp o.hz o.hme o.hz0 g A cap w hE hR hnc hcc hg3
theorem flags_bit {s : ByteArray} {lt : Bool} {FL : Nat} (hF : flagsH s lt = (FL : Nat)) : (FL / 8 % 2 == 1) = lt := by
  unfold flagsH at hF
  cases lt
  · rw [beq_eq_false_iff_ne]
    split at hF <;> split at hF <;> first | contradiction | omega
  · rw [beq_iff_eq]
    split at hF <;> split at hF <;> first | contradiction | omega
theorem time_back {y mo d h mi se : Int} {DT CK : Nat} (ht : rightB y mo d h mi se = true) (hD : dateI y mo d = (DT : Nat)) (hC : clockI h mi se = (CK : Nat)) : rightD DT CK = true ∧ tmD DT CK = tm y mo d h mi se := by
  have hr := RightT.of ht
  obtain ⟨e1, e2, e3⟩ := back_date hr
  obtain ⟨e4, e5, e6⟩ := back_clock hr
  rw [hD] at e1 e2 e3
  rw [hC] at e4 e5 e6
  exact ⟨by unfold rightD; rw [e1, e2, e3, e4, e5, e6, ht], by unfold tmD; rw [e1, e2, e3, e4, e5, e6]⟩
set_option maxHeartbeats 1000000 in
theorem page_slim (s : ByteArray) (y mo d h mi se : Int) (me c p z DT CK FL : Nat) (lt : Bool) (o : Ok s y mo d h mi se me c p z DT CK FL lt) (rest bs : List UInt8) (n : Nat) (hbs : bs = ES s me c p z DT CK FL ++ rest) (hlen : bs.length = n) (hn : n ≤ 1000) : Page bs n #[.string s, .int .i64 y, .int .i64 mo, .int .i64 d, .int .i64 h, .int .i64 mi, .int .i64 se, .int .i64 (me : Nat), .int .u32 (c : Nat), .int .i64 (p : Nat), .int .i64 (z : Nat), .bool false, .bool lt] (30 + s.size) := by
  intro A ca S w hS hB hnc
  have p2 : 256 ^ 2 = 65536 := rfl
  have p4 : 256 ^ 4 = 4294967296 := rfl
  have p8 : 256 ^ 8 = 18446744073709551616 := rfl
  obtain ⟨hs, h0, hc, hk, ht, hD, hC, hF, hD2, hC2, hF2, hp, hz, hme, hz0⟩ := o
  have q0 : bs.drop 0 = leB 67324752 4 ++ (leB 20 2 ++ (leB FL 2 ++ (leB me 2 ++ (leB CK 2 ++ (leB DT 2 ++ (leB c 4 ++ (leB p 4 ++ (leB z 4 ++ (leB s.size 2 ++ (leB 0 2 ++ (s.data.toList ++ rest))))))))))) := by rw [hbs]; simp [ES, catK, List.append_assoc]
  have n0 : num ((bs.drop 0).take 4) = 67324752 := nstep q0 (by omega)
  have q4 := dstep (o' := 4) q0 (leB_len _ _) (by omega)
  have n4 : num ((bs.drop 4).take 2) = 20 := nstep q4 (by omega)
  have q6 := dstep (o' := 6) q4 (leB_len _ _) (by omega)
  have n6 : num ((bs.drop 6).take 2) = FL := nstep q6 (by omega)
  have q8 := dstep (o' := 8) q6 (leB_len _ _) (by omega)
  have n8 : num ((bs.drop 8).take 2) = me := nstep q8 (by omega)
  have q10 := dstep (o' := 10) q8 (leB_len _ _) (by omega)
  have n10 : num ((bs.drop 10).take 2) = CK := nstep q10 (by omega)
  have q12 := dstep (o' := 12) q10 (leB_len _ _) (by omega)
  have n12 : num ((bs.drop 12).take 2) = DT := nstep q12 (by omega)
  have q14 := dstep (o' := 14) q12 (leB_len _ _) (by omega)
  have n14 : num ((bs.drop 14).take 4) = c := nstep q14 (by omega)
  have q18 := dstep (o' := 18) q14 (leB_len _ _) (by omega)
  have n18 : num ((bs.drop 18).take 4) = p := nstep q18 (by omega)
  have q22 := dstep (o' := 22) q18 (leB_len _ _) (by omega)
  have n22 : num ((bs.drop 22).take 4) = z := nstep q22 (by omega)
  have q26 := dstep (o' := 26) q22 (leB_len _ _) (by omega)
  have n26 : num ((bs.drop 26).take 2) = s.size := nstep q26 (by omega)
  have q28 := dstep (o' := 28) q26 (leB_len _ _) (by omega)
  have n28 : num ((bs.drop 28).take 2) = 0 := nstep q28 (by omega)
  have q30 := dstep (o' := 30) q28 (leB_len _ _) (by omega)
  have hnm : (⟨((bs.drop 30).take s.size).toArray⟩ : ByteArray) = s := by rw [q30, List.take_left' (by rfl)]
  have hN : 30 + s.size ≤ n := by rw [← hlen, hbs, List.length_append, ES_len]; omega
  obtain ⟨t1, t2⟩ := time_back ht hD hC
  have hq : bs.take (30 + s.size) = ES s me c p z DT CK FL := by rw [hbs]; exact List.take_left' (ES_len ..)
  refine rparse_slim_same A n ca bs S w hS 20 FL _ _ me CK DT c p z s.size s y mo d h mi se lt hB hn hN hnc n4 n6 n8 n10 n12 n14 n18 n22 n26 rfl rfl (flags_bit hF) t1 (by rw [if_pos rfl]; exact t2) hnm (by omega) rfl hk hz0 (ES s me c p z DT CK FL) (fun w' => ?_) hq
  cases lt with
  | false => exact renc_slim s y mo d h mi se me c p z DT CK FL w' hs hc ht hD hC hF hD2 hC2 hF2 hp hz hme
  | true =>
    obtain ⟨z1, z2, z3⟩ := hz0 rfl
    have h := renc_slim_later s y mo d h mi se me c p z DT CK FL w' hs hc ht hD hC hF hD2 hC2 hF2 hp hz hme
    rw [z1, z2, z3] at h ⊢
    exact h
set_option maxHeartbeats 1000000 in
theorem page_wide (s : ByteArray) (y mo d h mi se : Int) (me c p z DT CK FL : Nat) (lt : Bool) (o : Ok s y mo d h mi se me c p z DT CK FL lt) (rest bs : List UInt8) (n : Nat) (hbs : bs = EW s me c p z DT CK FL ++ rest) (hlen : bs.length = n) (hn : n ≤ 1000) : Page bs n #[.string s, .int .i64 y, .int .i64 mo, .int .i64 d, .int .i64 h, .int .i64 mi, .int .i64 se, .int .i64 (me : Nat), .int .u32 (c : Nat), .int .i64 (p : Nat), .int .i64 (z : Nat), .bool true, .bool lt] (s.size + 50) := by
  intro A ca S w hS hB hnc
  have p2 : 256 ^ 2 = 65536 := rfl
  have p4 : 256 ^ 4 = 4294967296 := rfl
  have p8 : 256 ^ 8 = 18446744073709551616 := rfl
  obtain ⟨hs, h0, hc, hk, ht, hD, hC, hF, hD2, hC2, hF2, hp, hz, hme, hz0⟩ := o
  have q0 : bs.drop 0 = leB 67324752 4 ++ (leB 45 2 ++ (leB FL 2 ++ (leB me 2 ++ (leB CK 2 ++ (leB DT 2 ++ (leB c 4 ++ (leB 4294967295 4 ++ (leB 4294967295 4 ++ (leB s.size 2 ++ (leB 20 2 ++ (s.data.toList ++ (leB 1 2 ++ (leB 16 2 ++ (leB z 8 ++ (leB p 8 ++ (rest)))))))))))))))) := by rw [hbs]; simp [EW, catK, List.append_assoc]
  have n0 : num ((bs.drop 0).take 4) = 67324752 := nstep q0 (by omega)
  have q4 := dstep (o' := 4) q0 (leB_len _ _) (by omega)
  have n4 : num ((bs.drop 4).take 2) = 45 := nstep q4 (by omega)
  have q6 := dstep (o' := 6) q4 (leB_len _ _) (by omega)
  have n6 : num ((bs.drop 6).take 2) = FL := nstep q6 (by omega)
  have q8 := dstep (o' := 8) q6 (leB_len _ _) (by omega)
  have n8 : num ((bs.drop 8).take 2) = me := nstep q8 (by omega)
  have q10 := dstep (o' := 10) q8 (leB_len _ _) (by omega)
  have n10 : num ((bs.drop 10).take 2) = CK := nstep q10 (by omega)
  have q12 := dstep (o' := 12) q10 (leB_len _ _) (by omega)
  have n12 : num ((bs.drop 12).take 2) = DT := nstep q12 (by omega)
  have q14 := dstep (o' := 14) q12 (leB_len _ _) (by omega)
  have n14 : num ((bs.drop 14).take 4) = c := nstep q14 (by omega)
  have q18 := dstep (o' := 18) q14 (leB_len _ _) (by omega)
  have n18 : num ((bs.drop 18).take 4) = 4294967295 := nstep q18 (by omega)
  have q22 := dstep (o' := 22) q18 (leB_len _ _) (by omega)
  have n22 : num ((bs.drop 22).take 4) = 4294967295 := nstep q22 (by omega)
  have q26 := dstep (o' := 26) q22 (leB_len _ _) (by omega)
  have n26 : num ((bs.drop 26).take 2) = s.size := nstep q26 (by omega)
  have q28 := dstep (o' := 28) q26 (leB_len _ _) (by omega)
  have n28 : num ((bs.drop 28).take 2) = 20 := nstep q28 (by omega)
  have q30 := dstep (o' := 30) q28 (leB_len _ _) (by omega)
  have hnm : (⟨((bs.drop 30).take s.size).toArray⟩ : ByteArray) = s := by rw [q30, List.take_left' (by rfl)]
  have r30 := dstep (o' := s.size + 30) q30 (show s.data.toList.length = s.size from rfl) (by omega)
  have m30 : num ((bs.drop (s.size + 30)).take 2) = 1 := nstep r30 (by omega)
  have r32 := dstep (o' := s.size + 32) r30 (leB_len _ _) (by omega)
  have m32 : num ((bs.drop (s.size + 32)).take 2) = 16 := nstep r32 (by omega)
  have r34 := dstep (o' := s.size + 34) r32 (leB_len _ _) (by omega)
  have m34 : num ((bs.drop (s.size + 34)).take 8) = z := nstep r34 (by omega)
  have r42 := dstep (o' := s.size + 42) r34 (leB_len _ _) (by omega)
  have m42 : num ((bs.drop (s.size + 42)).take 8) = p := nstep r42 (by omega)
  have r50 := dstep (o' := s.size + 50) r42 (leB_len _ _) (by omega)
  have hN : s.size + 50 ≤ n := by rw [← hlen, hbs, List.length_append, EW_len]; omega
  obtain ⟨t1, t2⟩ := time_back ht hD hC
  have hq : bs.take (s.size + 50) = EW s me c p z DT CK FL := by rw [hbs]; exact List.take_left' (EW_len ..)
  refine rparse_wide_same A n ca bs S w hS 45 FL _ _ me CK DT c 4294967295 4294967295 s.size s y mo d h mi se lt hB hn (by omega) hnc n4 n6 n8 n10 n12 n14 n18 n22 n26 rfl rfl (flags_bit hF) t1 (by rw [if_pos rfl]; exact t2) hnm z p hN m34 m42 (by omega) rfl (by omega) (by omega) hk hz0 (EW s me c p z DT CK FL) (fun w' => ?_) hq
  have he : 50 + s.size = s.size + 50 := by omega
  cases lt with
  | false =>
    have h := renc_wide s y mo d h mi se me c p z DT CK FL w' hs hc ht hD hC hF hD2 hC2 hF2 hp hz hme
    rw [he] at h
    have e : fl 4 [67324752] ++ fl 2 [45, FL, me, CK, DT] ++ fl 4 [c, 4294967295, 4294967295] ++ fl 2 [s.size, 20] ++ s.data.toList ++ (fl 2 [1, 16] ++ fl 8 [z, p]) = EW s me c p z DT CK FL := by simp [EW, fl, catK, List.append_assoc]
    rwa [e] at h
  | true =>
    obtain ⟨z1, z2, z3⟩ := hz0 rfl
    have h := renc_wide_later s y mo d h mi se me c p z DT CK FL w' hs hc ht hD hC hF hD2 hC2 hF2 hp hz hme
    rw [he] at h
    have e : fl 4 [67324752] ++ fl 2 [45, FL, me, CK, DT] ++ fl 4 [0, 4294967295, 4294967295] ++ fl 2 [s.size, 20] ++ s.data.toList ++ (fl 2 [1, 16] ++ fl 8 [0, 0]) = EW s me 0 0 0 DT CK FL := by simp [EW, fl, catK, List.append_assoc]
    rw [e] at h
    rw [z1, z2, z3] at h ⊢
    exact h

theorem cut_leB (bs : List UInt8) (o k o' : Nat) (h : o + k ≤ bs.length) (e : o + k = o') : bs.drop o = leB (num ((bs.drop o).take k)) k ++ bs.drop o' := by
  subst e
  have hl : ((bs.drop o).take k).length = k := by simp; omega
  have h2 := leB_num ((bs.drop o).take k)
  rw [hl] at h2
  rw [h2, ← List.drop_drop, List.take_append_drop]
theorem slim_of (bs : List UInt8) (n ln : Nat) (s : ByteArray) (me c p z DT CK FL : Nat) (hlen : bs.length = n) (hN : ln + 30 ≤ n) (n0 : num ((bs.drop 0).take 4) = 67324752) (n4 : num ((bs.drop 4).take 2) = 20) (n6 : num ((bs.drop 6).take 2) = FL) (n8 : num ((bs.drop 8).take 2) = me) (n10 : num ((bs.drop 10).take 2) = CK) (n12 : num ((bs.drop 12).take 2) = DT) (n14 : num ((bs.drop 14).take 4) = c) (n18 : num ((bs.drop 18).take 4) = p) (n22 : num ((bs.drop 22).take 4) = z) (n26 : num ((bs.drop 26).take 2) = ln) (n28 : num ((bs.drop 28).take 2) = 0) (hnm : (⟨((bs.drop 30).take ln).toArray⟩ : ByteArray) = s) : ∃ rest, bs = ES s me c p z DT CK FL ++ rest := by
  have hl : s.data.toList = (bs.drop 30).take ln := by rw [← hnm]
  have hsz : s.size = ln := by
    have h1 : s.data.toList.length = s.size := rfl
    rw [← h1, hl, List.length_take, List.length_drop]
    omega
  have e0 := cut_leB bs 0 4 4 (by omega) rfl
  rw [n0] at e0
  have e4 := cut_leB bs 4 2 6 (by omega) rfl
  rw [n4] at e4
  have e6 := cut_leB bs 6 2 8 (by omega) rfl
  rw [n6] at e6
  have e8 := cut_leB bs 8 2 10 (by omega) rfl
  rw [n8] at e8
  have e10 := cut_leB bs 10 2 12 (by omega) rfl
  rw [n10] at e10
  have e12 := cut_leB bs 12 2 14 (by omega) rfl
  rw [n12] at e12
  have e14 := cut_leB bs 14 4 18 (by omega) rfl
  rw [n14] at e14
  have e18 := cut_leB bs 18 4 22 (by omega) rfl
  rw [n18] at e18
  have e22 := cut_leB bs 22 4 26 (by omega) rfl
  rw [n22] at e22
  have e26 := cut_leB bs 26 2 28 (by omega) rfl
  rw [n26] at e26
  have e28 := cut_leB bs 28 2 30 (by omega) rfl
  rw [n28] at e28
  have e30 : bs.drop 30 = s.data.toList ++ bs.drop (ln + 30) := by
    rw [hl, Nat.add_comm ln 30, ← List.drop_drop, List.take_append_drop]
  have q : bs.drop 0 = leB 67324752 4 ++ (leB 20 2 ++ (leB FL 2 ++ (leB me 2 ++ (leB CK 2 ++ (leB DT 2 ++ (leB c 4 ++ (leB p 4 ++ (leB z 4 ++ (leB ln 2 ++ (leB 0 2 ++ (s.data.toList ++ bs.drop (ln + 30)))))))))))) := by
    rw [e0, e4, e6, e8, e10, e12, e14, e18, e22, e26, e28, e30]
  refine ⟨bs.drop (s.size + 30), ?_⟩
  have q' : bs = _ := q
  rw [hsz.symm] at q'
  exact q'.trans (by simp [ES, catK, List.append_assoc])
theorem wide_of (bs : List UInt8) (n ln : Nat) (s : ByteArray) (me c p z DT CK FL : Nat) (hlen : bs.length = n) (hN : ln + 50 ≤ n) (n0 : num ((bs.drop 0).take 4) = 67324752) (n4 : num ((bs.drop 4).take 2) = 45) (n6 : num ((bs.drop 6).take 2) = FL) (n8 : num ((bs.drop 8).take 2) = me) (n10 : num ((bs.drop 10).take 2) = CK) (n12 : num ((bs.drop 12).take 2) = DT) (n14 : num ((bs.drop 14).take 4) = c) (n18 : num ((bs.drop 18).take 4) = 4294967295) (n22 : num ((bs.drop 22).take 4) = 4294967295) (n26 : num ((bs.drop 26).take 2) = ln) (n28 : num ((bs.drop 28).take 2) = 20) (m30 : num ((bs.drop (ln + 30)).take 2) = 1) (m32 : num ((bs.drop (ln + 32)).take 2) = 16) (m34 : num ((bs.drop (ln + 34)).take 8) = z) (m42 : num ((bs.drop (ln + 42)).take 8) = p) (hnm : (⟨((bs.drop 30).take ln).toArray⟩ : ByteArray) = s) : ∃ rest, bs = EW s me c p z DT CK FL ++ rest := by
  have hl : s.data.toList = (bs.drop 30).take ln := by rw [← hnm]
  have hsz : s.size = ln := by
    have h1 : s.data.toList.length = s.size := rfl
    rw [← h1, hl, List.length_take, List.length_drop]
    omega
  have e0 := cut_leB bs 0 4 4 (by omega) rfl
  rw [n0] at e0
  have e4 := cut_leB bs 4 2 6 (by omega) rfl
  rw [n4] at e4
  have e6 := cut_leB bs 6 2 8 (by omega) rfl
  rw [n6] at e6
  have e8 := cut_leB bs 8 2 10 (by omega) rfl
  rw [n8] at e8
  have e10 := cut_leB bs 10 2 12 (by omega) rfl
  rw [n10] at e10
  have e12 := cut_leB bs 12 2 14 (by omega) rfl
  rw [n12] at e12
  have e14 := cut_leB bs 14 4 18 (by omega) rfl
  rw [n14] at e14
  have e18 := cut_leB bs 18 4 22 (by omega) rfl
  rw [n18] at e18
  have e22 := cut_leB bs 22 4 26 (by omega) rfl
  rw [n22] at e22
  have e26 := cut_leB bs 26 2 28 (by omega) rfl
  rw [n26] at e26
  have e28 := cut_leB bs 28 2 30 (by omega) rfl
  rw [n28] at e28
  have e30 : bs.drop 30 = s.data.toList ++ bs.drop (ln + 30) := by
    rw [hl, Nat.add_comm ln 30, ← List.drop_drop, List.take_append_drop]
  have f30 := cut_leB bs (ln + 30) 2 (ln + 32) (by omega) (by omega)
  rw [m30] at f30
  have f32 := cut_leB bs (ln + 32) 2 (ln + 34) (by omega) (by omega)
  rw [m32] at f32
  have f34 := cut_leB bs (ln + 34) 8 (ln + 42) (by omega) (by omega)
  rw [m34] at f34
  have f42 := cut_leB bs (ln + 42) 8 (ln + 50) (by omega) (by omega)
  rw [m42] at f42
  have q : bs.drop 0 = leB 67324752 4 ++ (leB 45 2 ++ (leB FL 2 ++ (leB me 2 ++ (leB CK 2 ++ (leB DT 2 ++ (leB c 4 ++ (leB 4294967295 4 ++ (leB 4294967295 4 ++ (leB ln 2 ++ (leB 20 2 ++ (s.data.toList ++ (leB 1 2 ++ (leB 16 2 ++ (leB z 8 ++ (leB p 8 ++ (bs.drop (ln + 50))))))))))))))))) := by
    rw [e0, e4, e6, e8, e10, e12, e14, e18, e22, e26, e28, e30, f30, f32, f34, f42]
  refine ⟨bs.drop (s.size + 50), ?_⟩
  have q' : bs = _ := q
  rw [hsz.symm] at q'
  exact q'.trans (by simp [EW, catK, List.append_assoc])
theorem ok_read (s : ByteArray) (me c p z dt ck fl : Nat) (lt : Bool) (hk : codeH s (rightD dt ck) me p z = 0) (hF : flagsH s lt = (fl : Nat)) (hc : c < 4294967296) (hdt : dt < 65536) (hck : ck < 65536) (hfl : fl < 65536) (hz0 : lt = true → c = 0 ∧ p = 0 ∧ z = 0) :
    Ok s (1980 + (dt : Int) / 512) ((dt : Int) / 32 % 16) ((dt : Int) % 32) ((ck : Int) / 2048) ((ck : Int) / 32 % 64) ((ck : Int) % 32 * 2) me c p z dt ck fl lt := by
  obtain ⟨h1, h2, h3, h4, h5, h6, h7⟩ := codeH_zero hk
  have h0 : s.size ≠ 0 := fun h => by rw [nameOk_empty h] at h1; cases h1
  exact ⟨nameOk_size h1, h0, hc, hk, h2, by unfold dateI; omega, by unfold clockI; omega, hF, hdt, hck, hfl, by omega, by omega, by omega, hz0⟩
theorem wrap_small (v : Nat) (hv : v < 18446744073709551616) (h : 0 ≤ IntKind.i64.wrap (v : Int)) : IntKind.i64.wrap (v : Int) = (v : Int) := by
  rw [IntKind.wrap_i64] at h ⊢

  omega
theorem read_none (bs : List UInt8) (n : Nat) (hlen : bs.length = n) (hn : n ≤ 1000) (h1 : ¬ Slim bs) (h2 : ¬ Wide bs) :
    ∃ (K : Int) (L : Nat) (s : ByteArray) (y mo d h mi se me c p z : Int) (wd lt : Bool), K ≠ 0 ∧ Reads bs n K #[.string s, .int .i64 y, .int .i64 mo, .int .i64 d, .int .i64 h, .int .i64 mi, .int .i64 se, .int .i64 me, .int .u32 c, .int .i64 p, .int .i64 z, .bool wd, .bool lt] L := by
  cases hx : (num ((bs.drop 4).take 2) == 45) with
  | false =>
    refine ⟨_, _, _, _, _, _, _, _, _, _, _, _, _, _, _, ?_, fun g A cap w hE hR hnc hcc hg3 => hread_slim g A n cap bs _ _ _ _ _ _ _ _ _ _ _ _ _ _ _ _ _ _ _ _ _ _ _ _ w hE hR hn hnc hcc rfl rfl rfl rfl rfl rfl rfl rfl rfl hx rfl rfl rfl rfl hg3 rfl rfl rfl rfl rfl rfl ⟩
    intro hK
    have hm := bad_mem _ hK (by
      intro x hx
      simp only [dlS, List.mem_cons, List.not_mem_nil, or_false] at hx
      rcases hx with rfl | rfl | rfl | rfl | rfl | rfl | rfl | rfl | rfl | rfl | rfl | rfl | rfl | rfl | rfl | rfl | rfl | rfl | rfl
      all_goals simp)
    have a1 := hm (_, 30) (by simp only [dlS, List.mem_cons]; exact .inr (.inl rfl))
    have a2 := hm (_, 31) (by simp only [dlS, List.mem_cons]; exact .inr (.inr (.inr (.inr (.inr (.inl rfl))))))
    have a3 := hm (_, 36) (by simp only [dlS, List.mem_cons]; exact .inr (.inr (.inr (.inr (.inr (.inr (.inr (.inr (.inr (.inr (.inr (.inr (.inr (.inr (.inl rfl)))))))))))))))
    have a4 := hm (decide (30 + num ((bs.drop 26).take 2) ≤ n), 4) (by simp [dlS])
    have a5 := hm (_, 32) (by simp only [dlS, List.mem_cons]; exact .inr (.inr (.inr (.inr (.inr (.inr (.inr (.inr (.inr (.inr (.inr (.inr (.inr (.inr (.inr (.inr (.inl rfl)))))))))))))))))
    have a6 := hm (_, 13) (by simp only [dlS, List.mem_cons]; exact .inr (.inr (.inr (.inr (.inr (.inr (.inr (.inr (.inr (.inr (.inr (.inr (.inr (.inr (.inr (.inr (.inr (.inl rfl))))))))))))))))))
    have a7 := hm (_, codeH (⟨((bs.drop 30).take (num ((bs.drop 26).take 2))).toArray⟩ : ByteArray) (rightD (num ((bs.drop 12).take 2)) (num ((bs.drop 10).take 2))) (num ((bs.drop 8).take 2)) (num ((bs.drop 18).take 4)) (num ((bs.drop 22).take 4))) (by simp only [dlS, List.mem_cons]; exact .inr (.inr (.inr (.inr (.inr (.inr (.inr (.inr (.inr (.inr (.inr (.inr (.inr (.inr (.inr (.inr (.inr (.inr (.inl rfl)))))))))))))))))))
    simp only [beq_iff_eq, decide_eq_true_eq] at a1 a2 a3 a4 a5 a7
    have o := ok_read (⟨((bs.drop 30).take (num ((bs.drop 26).take 2))).toArray⟩ : ByteArray) (num ((bs.drop 8).take 2)) (num ((bs.drop 14).take 4)) (num ((bs.drop 18).take 4)) (num ((bs.drop 22).take 4)) (num ((bs.drop 12).take 2)) (num ((bs.drop 10).take 2)) (num ((bs.drop 6).take 2)) (num ((bs.drop 6).take 2) / 8 % 2 == 1) a7 a5.symm (num_bd _ _ _ _ rfl) (num_bd _ _ _ _ rfl) (num_bd _ _ _ _ rfl) (num_bd _ _ _ _ rfl) (fun hl => by rw [hl] at a6; simpa using a6)
    exact h1 ⟨_, _, _, _, _, _, _, _, _, _, _, _, _, _, _, o, slim_of bs n _ _ _ _ _ _ _ _ _ hlen (by omega) a1 a2 rfl rfl rfl rfl rfl rfl rfl rfl a3 rfl⟩
  | true =>
    refine ⟨_, _, _, _, _, _, _, _, _, _, _, _, _, _, _, ?_, fun g A cap w hE hR hnc hcc hg3 => hread_wide g A n cap bs _ _ _ _ _ _ _ _ _ _ _ _ _ _ _ _ _ _ _ _ _ _ _ _ _ _ _ _ w hE hR hn hnc hcc rfl rfl rfl rfl rfl rfl rfl rfl rfl hx rfl rfl rfl rfl rfl rfl rfl rfl hg3 rfl rfl rfl rfl rfl rfl ⟩
    intro hK
    have hm := bad_mem _ hK (by
      intro x hx
      simp only [dlW, List.mem_cons, List.not_mem_nil, or_false] at hx
      rcases hx with rfl | rfl | rfl | rfl | rfl | rfl | rfl | rfl | rfl | rfl | rfl | rfl | rfl | rfl | rfl | rfl | rfl | rfl | rfl | rfl | rfl | rfl | rfl | rfl | rfl
      all_goals simp)
    simp only [dlW, List.mem_cons, List.not_mem_nil, or_false, forall_eq_or_imp, forall_eq] at hm
    obtain ⟨-, a1, -, -, -, -, -, a2, -, -, -, -, a3, -, a4, -, -, a5, -, a6, -, a7, a8, a9, a10⟩ := hm
    simp only [beq_iff_eq, decide_eq_true_eq, Bool.and_eq_true] at a1 a3 a4 a5 a6 a7 a8 a10 hx
    have hz := codeH_zero a10
    obtain ⟨-, -, -, hz1, -, hp1, -⟩ := hz
    rw [wrap_small _ (num_bd _ _ 8 _ rfl) hz1, wrap_small _ (num_bd _ _ 8 _ rfl) hp1] at a10
    rw [wrap_small _ (num_bd _ _ 8 _ rfl) hz1, wrap_small _ (num_bd _ _ 8 _ rfl) hp1] at a9
    have o := ok_read (⟨((bs.drop 30).take (num ((bs.drop 26).take 2))).toArray⟩ : ByteArray) (num ((bs.drop 8).take 2)) (num ((bs.drop 14).take 4)) (num ((bs.drop (num ((bs.drop 26).take 2) + 42)).take 8)) (num ((bs.drop (num ((bs.drop 26).take 2) + 34)).take 8)) (num ((bs.drop 12).take 2)) (num ((bs.drop 10).take 2)) (num ((bs.drop 6).take 2)) (num ((bs.drop 6).take 2) / 8 % 2 == 1) a10 a8.symm (num_bd _ _ _ _ rfl) (num_bd _ _ _ _ rfl) (num_bd _ _ _ _ rfl) (num_bd _ _ _ _ rfl) (fun hl => by rw [hl] at a9; simp at a9; omega)
    exact h2 ⟨_, _, _, _, _, _, _, _, _, _, _, _, _, _, _, o, wide_of bs n _ _ _ _ _ _ _ _ _ hlen a7 a1 hx rfl rfl rfl rfl rfl a3.1 a3.2 rfl a4 a5 a6 rfl rfl rfl⟩

theorem enc_slim (s : ByteArray) (y mo d h mi se : Int) (me c p z DT CK FL : Nat) (lt : Bool) (o : Ok s y mo d h mi se me c p z DT CK FL lt) (w : World) : Calls Tryd.prog 15 #[.agg #[.string s, .int .i64 y, .int .i64 mo, .int .i64 d, .int .i64 h, .int .i64 mi, .int .i64 se, .int .i64 (me : Nat), .int .u32 (c : Nat), .int .i64 (p : Nat), .int .i64 (z : Nat), .bool false, .bool lt]] w (RetB (30 + s.size) (ES s me c p z DT CK FL) w) := by
  obtain ⟨hs, h0, hc, hk, ht, hD, hC, hF, hD2, hC2, hF2, hp, hz, hme, hz0⟩ := o
  cases lt with
  | false => exact renc_slim s y mo d h mi se me c p z DT CK FL w hs hc ht hD hC hF hD2 hC2 hF2 hp hz hme
  | true =>
    obtain ⟨z1, z2, z3⟩ := hz0 rfl
    have h := renc_slim_later s y mo d h mi se me c p z DT CK FL w hs hc ht hD hC hF hD2 hC2 hF2 hp hz hme
    rw [z1, z2, z3] at h ⊢
    exact h
theorem enc_wide (s : ByteArray) (y mo d h mi se : Int) (me c p z DT CK FL : Nat) (lt : Bool) (o : Ok s y mo d h mi se me c p z DT CK FL lt) (w : World) : Calls Tryd.prog 15 #[.agg #[.string s, .int .i64 y, .int .i64 mo, .int .i64 d, .int .i64 h, .int .i64 mi, .int .i64 se, .int .i64 (me : Nat), .int .u32 (c : Nat), .int .i64 (p : Nat), .int .i64 (z : Nat), .bool true, .bool lt]] w (RetB (s.size + 50) (EW s me c p z DT CK FL) w) := by
  obtain ⟨hs, h0, hc, hk, ht, hD, hC, hF, hD2, hC2, hF2, hp, hz, hme, hz0⟩ := o
  have he : 50 + s.size = s.size + 50 := by omega
  cases lt with
  | false =>
    have h := renc_wide s y mo d h mi se me c p z DT CK FL w hs hc ht hD hC hF hD2 hC2 hF2 hp hz hme
    rw [he] at h
    have e : fl 4 [67324752] ++ fl 2 [45, FL, me, CK, DT] ++ fl 4 [c, 4294967295, 4294967295] ++ fl 2 [s.size, 20] ++ s.data.toList ++ (fl 2 [1, 16] ++ fl 8 [z, p]) = EW s me c p z DT CK FL := by simp [EW, fl, catK, List.append_assoc]
    rwa [e] at h
  | true =>
    obtain ⟨z1, z2, z3⟩ := hz0 rfl
    have h := renc_wide_later s y mo d h mi se me c p z DT CK FL w hs hc ht hD hC hF hD2 hC2 hF2 hp hz hme
    rw [he] at h
    have e : fl 4 [67324752] ++ fl 2 [45, FL, me, CK, DT] ++ fl 4 [0, 4294967295, 4294967295] ++ fl 2 [s.size, 20] ++ s.data.toList ++ (fl 2 [1, 16] ++ fl 8 [0, 0]) = EW s me 0 0 0 DT CK FL := by simp [EW, fl, catK, List.append_assoc]
    rw [e] at h
    rw [z1, z2, z3] at h ⊢
    exact h
theorem tm_some (r : Bool) (a b : Int) : ∃ y mo d h mi s, (if r = true then tmD a b else tm 0 0 0 0 0 0) = tm y mo d h mi s := by
  cases r
  · exact ⟨0, 0, 0, 0, 0, 0, if_neg (by decide)⟩
  · exact ⟨_, _, _, _, _, _, if_pos rfl⟩
set_option maxHeartbeats 2000000 in
theorem page_none (bs : List UInt8) (n : Nat) (hlen : bs.length = n) (hn : n ≤ 1000) (h1 : ¬ Slim bs) (h2 : ¬ Wide bs) : Page bs n #[.string ⟨#[]⟩, .int .i64 0, .int .i64 0, .int .i64 0, .int .i64 0, .int .i64 0, .int .i64 0, .int .i64 0, .int .u32 0, .int .i64 0, .int .i64 0, .bool false, .bool false] 0 := by
  intro A c S w hS hB hnc
  by_cases h30 : n < 30
  · exact rparse_short A n c w h30
  by_cases hcut : n - 30 < num ((bs.drop 26).take 2)
  · exact rparse_cut A n c bs S w _ hB hn (by omega) hnc rfl hcut
  have h30' : 30 + num ((bs.drop 26).take 2) ≤ n := by omega
  cases hx : (num ((bs.drop 4).take 2) == 45) with
  | false =>
    cases htk : rightD (num ((bs.drop 12).take 2)) (num ((bs.drop 10).take 2)) with
    | false =>
      by_cases hc : c = 30
      · exact rparse_slim_time_end A n c bs S w hS _ _ _ _ _ _ _ _ _ _ _ _ _ _ _ _ _ _ _ hB hn (by omega) hnc rfl rfl rfl rfl rfl rfl rfl rfl rfl rfl rfl rfl htk (if_neg (by decide)) rfl hc hx
      · exact rparse_slim_time A n c bs S w hS _ _ _ _ _ _ _ _ _ _ _ _ _ _ _ _ _ _ _ hB hn (by omega) hnc rfl rfl rfl rfl rfl rfl rfl rfl rfl rfl rfl rfl htk (if_neg (by decide)) rfl hc hx
    | true =>
      cases hK : (codeH (⟨((bs.drop 30).take (num ((bs.drop 26).take 2))).toArray⟩ : ByteArray) (rightD (num ((bs.drop 12).take 2)) (num ((bs.drop 10).take 2))) (num ((bs.drop 8).take 2)) (num ((bs.drop 18).take 4)) (num ((bs.drop 22).take 4)) == 0) with
      | false =>
        by_cases hc : c = 30
        · exact rparse_slim_code_end A n c bs S w hS _ _ _ _ _ _ _ _ _ _ _ _ _ _ _ _ _ _ _ hB hn (by omega) hnc rfl rfl rfl rfl rfl rfl rfl rfl rfl rfl rfl rfl htk (if_pos rfl) rfl hc hx _ hK rfl
        · exact rparse_slim_code A n c bs S w hS _ _ _ _ _ _ _ _ _ _ _ _ _ _ _ _ _ _ _ hB hn (by omega) hnc rfl rfl rfl rfl rfl rfl rfl rfl rfl rfl rfl rfl htk (if_pos rfl) rfl hc hx _ hK rfl
      | true =>
        have hk := beq_iff_eq.1 hK
        have hn0 : num ((bs.drop 26).take 2) ≠ 0 := by
          intro h
          have h3 := (codeH_zero hk).1
          rw [h, List.take_zero, nameOk_empty rfl] at h3
          cases h3
        by_cases hl : (num ((bs.drop 6).take 2) / 8 % 2 == 1) = true → num ((bs.drop 14).take 4) = 0 ∧ (num ((bs.drop 18).take 4)) = 0 ∧ (num ((bs.drop 22).take 4)) = 0
        · obtain ⟨DT, CK, FL, o⟩ := ok_of _ _ _ _ _ _ _ _ _ _ _ _ (num_bd _ _ _ _ rfl) hk hl
          by_cases hq : bs.take (30 + num ((bs.drop 26).take 2)) = ES (⟨((bs.drop 30).take (num ((bs.drop 26).take 2))).toArray⟩ : ByteArray) (num ((bs.drop 8).take 2)) (num ((bs.drop 14).take 4)) (num ((bs.drop 18).take 4)) (num ((bs.drop 22).take 4)) DT CK FL
          · exact absurd ⟨_, _, _, _, _, _, _, _, _, _, _, _, _, _, _, o, bs.drop (30 + num ((bs.drop 26).take 2)), by rw [← hq, List.take_append_drop]⟩ h1
          · have hsz : ByteArray.size (⟨((bs.drop 30).take (num ((bs.drop 26).take 2))).toArray⟩ : ByteArray) = num ((bs.drop 26).take 2) := by
              show (((bs.drop 30).take (num ((bs.drop 26).take 2))).toArray).size = _
              simp
              omega
            have hen := enc_slim _ _ _ _ _ _ _ _ _ _ _ _ _ _ _ o
            rw [hsz] at hen
            exact rparse_slim_diff A n c bs S w hS _ _ _ _ _ _ _ _ _ _ _ _ _ _ _ _ _ _ _ hB hn (by omega) hnc rfl rfl rfl rfl rfl rfl rfl rfl rfl rfl rfl rfl htk (if_pos rfl) rfl (by omega) hx hk hl _ hen hq
        · exact rparse_slim_told A n c bs S w hS _ _ _ _ _ _ _ _ _ _ _ _ _ _ _ _ _ _ _ hB hn (by omega) hnc rfl rfl rfl rfl rfl rfl rfl rfl rfl rfl rfl rfl htk (if_pos rfl) rfl (by omega) hx hk (by simp only [Classical.not_imp] at hl; exact hl.1) (by simp only [Classical.not_imp] at hl; rw [Bool.eq_false_iff]; intro h; simp only [Bool.and_eq_true, beq_iff_eq] at h; exact hl.2 h)
  | true =>
    by_cases h50 : n < num ((bs.drop 26).take 2) + 50
    · by_cases hc : c = 30
      · obtain ⟨ty, tmo, td, th, tmi, ts, htm⟩ := tm_some (rightD (num ((bs.drop 12).take 2)) (num ((bs.drop 10).take 2))) (num ((bs.drop 12).take 2)) (num ((bs.drop 10).take 2))
        exact rparse_wide_short_end A n c bs S w hS _ _ _ _ _ _ _ _ _ _ _ _ _ _ _ _ _ _ _ _ hB hn (by omega) hnc rfl rfl rfl rfl rfl rfl rfl rfl rfl rfl rfl rfl rfl htm rfl hc hx h50
      · obtain ⟨ty, tmo, td, th, tmi, ts, htm⟩ := tm_some (rightD (num ((bs.drop 12).take 2)) (num ((bs.drop 10).take 2))) (num ((bs.drop 12).take 2)) (num ((bs.drop 10).take 2))
        exact rparse_wide_short A n c bs S w hS _ _ _ _ _ _ _ _ _ _ _ _ _ _ _ _ _ _ _ _ hB hn (by omega) hnc rfl rfl rfl rfl rfl rfl rfl rfl rfl rfl rfl rfl rfl htm rfl hc hx h50
    by_cases hz8 : 67108864 < num ((bs.drop (num ((bs.drop 26).take 2) + 34)).take 8)
    · obtain ⟨ty, tmo, td, th, tmi, ts, htm⟩ := tm_some (rightD (num ((bs.drop 12).take 2)) (num ((bs.drop 10).take 2))) (num ((bs.drop 12).take 2)) (num ((bs.drop 10).take 2))
      exact rparse_wide_bigs A n c bs S w hS _ _ _ _ _ _ _ _ _ _ _ _ _ _ _ _ _ _ _ _ hB hn (by omega) hnc rfl rfl rfl rfl rfl rfl rfl rfl rfl rfl rfl rfl rfl htm rfl _ _ (by omega) rfl rfl (by omega) hx hz8
    by_cases hp8 : 67108864 < num ((bs.drop (num ((bs.drop 26).take 2) + 42)).take 8)
    · obtain ⟨ty, tmo, td, th, tmi, ts, htm⟩ := tm_some (rightD (num ((bs.drop 12).take 2)) (num ((bs.drop 10).take 2))) (num ((bs.drop 12).take 2)) (num ((bs.drop 10).take 2))
      exact rparse_wide_bigp A n c bs S w hS _ _ _ _ _ _ _ _ _ _ _ _ _ _ _ _ _ _ _ _ hB hn (by omega) hnc rfl rfl rfl rfl rfl rfl rfl rfl rfl rfl rfl rfl rfl htm rfl _ _ (by omega) rfl rfl (by omega) hx (by omega) hp8
    cases htk : rightD (num ((bs.drop 12).take 2)) (num ((bs.drop 10).take 2)) with
    | false =>
      exact rparse_wide_time A n c bs S w hS _ _ _ _ _ _ _ _ _ _ _ _ _ _ _ _ _ _ _ hB hn (by omega) hnc rfl rfl rfl rfl rfl rfl rfl rfl rfl rfl rfl rfl htk (if_neg (by decide)) rfl _ _ (by omega) rfl rfl (by omega) hx (by omega) (by omega)
    | true =>
      cases hK : (codeH (⟨((bs.drop 30).take (num ((bs.drop 26).take 2))).toArray⟩ : ByteArray) (rightD (num ((bs.drop 12).take 2)) (num ((bs.drop 10).take 2))) (num ((bs.drop 8).take 2)) (num ((bs.drop (num ((bs.drop 26).take 2) + 42)).take 8)) (num ((bs.drop (num ((bs.drop 26).take 2) + 34)).take 8)) == 0) with
      | false =>
        exact rparse_wide_code A n c bs S w hS _ _ _ _ _ _ _ _ _ _ _ _ _ _ _ _ _ _ _ hB hn (by omega) hnc rfl rfl rfl rfl rfl rfl rfl rfl rfl rfl rfl rfl htk (if_pos rfl) rfl _ _ (by omega) rfl rfl (by omega) hx (by omega) (by omega) _ hK rfl
      | true =>
        have hk := beq_iff_eq.1 hK
        have hn0 : num ((bs.drop 26).take 2) ≠ 0 := by
          intro h
          have h3 := (codeH_zero hk).1
          rw [h, List.take_zero, nameOk_empty rfl] at h3
          cases h3
        by_cases hl : (num ((bs.drop 6).take 2) / 8 % 2 == 1) = true → num ((bs.drop 14).take 4) = 0 ∧ (num ((bs.drop (num ((bs.drop 26).take 2) + 42)).take 8)) = 0 ∧ (num ((bs.drop (num ((bs.drop 26).take 2) + 34)).take 8)) = 0
        · obtain ⟨DT, CK, FL, o⟩ := ok_of _ _ _ _ _ _ _ _ _ _ _ _ (num_bd _ _ _ _ rfl) hk hl
          by_cases hq : bs.take (num ((bs.drop 26).take 2) + 50) = EW (⟨((bs.drop 30).take (num ((bs.drop 26).take 2))).toArray⟩ : ByteArray) (num ((bs.drop 8).take 2)) (num ((bs.drop 14).take 4)) (num ((bs.drop (num ((bs.drop 26).take 2) + 42)).take 8)) (num ((bs.drop (num ((bs.drop 26).take 2) + 34)).take 8)) DT CK FL
          · exact absurd ⟨_, _, _, _, _, _, _, _, _, _, _, _, _, _, _, o, bs.drop (num ((bs.drop 26).take 2) + 50), by rw [← hq, List.take_append_drop]⟩ h2
          · have hsz : ByteArray.size (⟨((bs.drop 30).take (num ((bs.drop 26).take 2))).toArray⟩ : ByteArray) = num ((bs.drop 26).take 2) := by
              show (((bs.drop 30).take (num ((bs.drop 26).take 2))).toArray).size = _
              simp
              omega
            have hen := enc_wide _ _ _ _ _ _ _ _ _ _ _ _ _ _ _ o
            rw [hsz] at hen
            exact rparse_wide_diff A n c bs S w hS _ _ _ _ _ _ _ _ _ _ _ _ _ _ _ _ _ _ _ hB hn (by omega) hnc rfl rfl rfl rfl rfl rfl rfl rfl rfl rfl rfl rfl htk (if_pos rfl) rfl _ _ (by omega) rfl rfl (by omega) hx (by omega) (by omega) hk hl _ hen hq
        · exact rparse_wide_told A n c bs S w hS _ _ _ _ _ _ _ _ _ _ _ _ _ _ _ _ _ _ _ hB hn (by omega) hnc rfl rfl rfl rfl rfl rfl rfl rfl rfl rfl rfl rfl htk (if_pos rfl) rfl _ _ (by omega) rfl rfl (by omega) hx (by omega) (by omega) hk (by simp only [Classical.not_imp] at hl; exact hl.1) (by simp only [Classical.not_imp] at hl; rw [Bool.eq_false_iff]; intro h; simp only [Bool.and_eq_true, beq_iff_eq] at h; exact hl.2 h)
def Yes (bs : List UInt8) (n : Nat) : Prop :=
  ∃ (s : ByteArray) (y mo d h mi se : Int) (me c p z : Nat) (wd lt : Bool) (L : Nat), 30 ≤ L ∧ L ≤ 305 ∧ L ≤ n ∧ Reads bs n 0 #[.string s, .int .i64 y, .int .i64 mo, .int .i64 d, .int .i64 h, .int .i64 mi, .int .i64 se, .int .i64 (me : Nat), .int .u32 (c : Nat), .int .i64 (p : Nat), .int .i64 (z : Nat), .bool wd, .bool lt] L ∧ (∀ m, min n 305 = m → Reads (bs.take m) m 0 #[.string s, .int .i64 y, .int .i64 mo, .int .i64 d, .int .i64 h, .int .i64 mi, .int .i64 se, .int .i64 (me : Nat), .int .u32 (c : Nat), .int .i64 (p : Nat), .int .i64 (z : Nat), .bool wd, .bool lt] L) ∧ Page bs n #[.string s, .int .i64 y, .int .i64 mo, .int .i64 d, .int .i64 h, .int .i64 mi, .int .i64 se, .int .i64 (me : Nat), .int .u32 (c : Nat), .int .i64 (p : Nat), .int .i64 (z : Nat), .bool wd, .bool lt] L
def Bad (bs : List UInt8) (n : Nat) : Prop :=
  ∃ (K : Int) (L : Nat) (s : ByteArray) (y mo d h mi se me c p z : Int) (wd lt : Bool), K ≠ 0 ∧ Reads bs n K #[.string s, .int .i64 y, .int .i64 mo, .int .i64 d, .int .i64 h, .int .i64 mi, .int .i64 se, .int .i64 me, .int .u32 c, .int .i64 p, .int .i64 z, .bool wd, .bool lt] L
def No (bs : List UInt8) (n : Nat) : Prop := Bad bs n ∧ (∀ m, min n 305 = m → Bad (bs.take m) m) ∧ Page bs n #[.string ⟨#[]⟩, .int .i64 0, .int .i64 0, .int .i64 0, .int .i64 0, .int .i64 0, .int .i64 0, .int .i64 0, .int .u32 0, .int .i64 0, .int .i64 0, .bool false, .bool false] 0
theorem take_of {E rest bs : List UInt8} {m : Nat} (h : bs = E ++ rest) (hm : E.length ≤ m) : bs.take m = E ++ rest.take (m - E.length) := by
  rw [h, List.take_append, List.take_of_length_le hm]
theorem outcome (bs : List UInt8) (n : Nat) (hlen : bs.length = n) (hn : n ≤ 1000) : Yes bs n ∨ No bs n := by
  by_cases h1 : Slim bs
  · left
    obtain ⟨s, y, mo, d, h, mi, se, me, c, p, z, DT, CK, FL, lt, o, rest, hbs⟩ := h1
    have hl := congrArg List.length hbs
    rw [List.length_append, ES_len, hlen] at hl
    have hs := o.hs
    refine ⟨s, y, mo, d, h, mi, se, me, c, p, z, false, lt, 30 + s.size, by omega, by omega, by omega, reads_slim s y mo d h mi se me c p z DT CK FL lt o rest bs n hbs hlen hn, fun m hm => ?_, page_slim s y mo d h mi se me c p z DT CK FL lt o rest bs n hbs hlen hn⟩
    exact reads_slim s y mo d h mi se me c p z DT CK FL lt o _ _ m (take_of hbs (by rw [ES_len]; omega)) (by rw [List.length_take]; omega) (by omega)
  · by_cases h2 : Wide bs
    · left
      obtain ⟨s, y, mo, d, h, mi, se, me, c, p, z, DT, CK, FL, lt, o, rest, hbs⟩ := h2
      have hl := congrArg List.length hbs
      rw [List.length_append, EW_len, hlen] at hl
      have hs := o.hs
      refine ⟨s, y, mo, d, h, mi, se, me, c, p, z, true, lt, s.size + 50, by omega, by omega, by omega, reads_wide s y mo d h mi se me c p z DT CK FL lt o rest bs n hbs hlen hn, fun m hm => ?_, page_wide s y mo d h mi se me c p z DT CK FL lt o rest bs n hbs hlen hn⟩
      exact reads_wide s y mo d h mi se me c p z DT CK FL lt o _ _ m (take_of hbs (by rw [EW_len]; omega)) (by rw [List.length_take]; omega) (by omega)
    · right
      refine ⟨read_none bs n hlen hn h1 h2, fun m hm => read_none _ m (by rw [List.length_take]; omega) (by omega) ?_ ?_, page_none bs n hlen hn h1 h2⟩
      · rintro ⟨s, y, mo, d, h, mi, se, me, c, p, z, DT, CK, FL, lt, o, rest, hbs⟩
        exact h1 ⟨s, y, mo, d, h, mi, se, me, c, p, z, DT, CK, FL, lt, o, rest ++ bs.drop m, by rw [← List.append_assoc, ← hbs, List.take_append_drop]⟩
      · rintro ⟨s, y, mo, d, h, mi, se, me, c, p, z, DT, CK, FL, lt, o, rest, hbs⟩
        exact h2 ⟨s, y, mo, d, h, mi, se, me, c, p, z, DT, CK, FL, lt, o, rest ++ bs.drop m, by rw [← List.append_assoc, ← hbs, List.take_append_drop]⟩
end Go.Proofs.YtdpiaabmgdhekaaDoor
