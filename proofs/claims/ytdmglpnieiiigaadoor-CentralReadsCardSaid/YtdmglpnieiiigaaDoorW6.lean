/- A record that bytes begin with, or none. -/
import Derived.Test.YtdmglpnieiiigaaDoorW3
import Derived.Test.YtdmglpnieiiigaaDoorW4
import Derived.Test.YtdmglpnieiiigaaDoorW5
import Derived.Test.YtdmglpnieiiigaaDoorW5b
import Derived.Test.YtdmglpnieiiigaaDoorV8
namespace Go.Proofs.YtdmglpnieiiigaaDoor
open Go.RowKit

def Page (bs : List UInt8) (n : Nat) (cs : Array Value) (a L : Nat) : Prop :=
  ∀ (A : Option Addr) (c : Nat) (S : Nat → Prop) (w : World), (∀ b, S b → b < w.heap.size) → Bs w S A n bs → n ≤ c → Calls Tryd.prog 13 #[.slice A n c] w (RPost w (.agg cs) a L)
def Slim (bs : List UInt8) : Prop := ∃ s y mo d h mi se me c p z pl DT CK FL lt, Ok s y mo d h mi se me c p z pl DT CK FL lt ∧ ∃ rest, bs = ES s me c p z pl DT CK FL ++ rest
def Wide (bs : List UInt8) : Prop := ∃ s y mo d h mi se me c p z pl DT CK FL lt, Ok s y mo d h mi se me c p z pl DT CK FL lt ∧ ∃ rest, bs = EW s me c p z pl DT CK FL ++ rest
theorem enc_slim (s : ByteArray) (y mo d h mi se : Int) (me c p z pl DT CK FL : Nat) (lt : Bool) (o : Ok s y mo d h mi se me c p z pl DT CK FL lt) (w : World) : Calls Tryd.prog 11 #[.agg #[.string s, .int .i64 y, .int .i64 mo, .int .i64 d, .int .i64 h, .int .i64 mi, .int .i64 se, .int .i64 (me : Nat), .int .u32 (c : Nat), .int .i64 (p : Nat), .int .i64 (z : Nat), .bool false, .bool lt], .int .i64 (pl : Nat)] w (RetB (46 + s.size) (ES s me c p z pl DT CK FL) w) := by
  obtain ⟨hs, h0, hc, hk, ht, hD, hC, hF, hD2, hC2, hF2, hp, hz, hme, hpl⟩ := o
  have h := crenc_slim s y mo d h mi se me c p z pl DT CK FL lt w hs hc ht hD hC hF hD2 hC2 hF2 hp hz hme hpl
  have e : fl 4 [33639248] ++ fl 2 [788, 20, FL, me, CK, DT] ++ fl 4 [c, p, z] ++ fl 2 [s.size, 0, 0, 0, 0] ++ fl 4 [2175008768, pl] ++ s.data.toList = ES s me c p z pl DT CK FL := by rw [fl_nums 4]; simp [ES, fl, catK, List.append_assoc]
  rwa [e] at h
theorem enc_wide (s : ByteArray) (y mo d h mi se : Int) (me c p z pl DT CK FL : Nat) (lt : Bool) (o : Ok s y mo d h mi se me c p z pl DT CK FL lt) (w : World) : Calls Tryd.prog 11 #[.agg #[.string s, .int .i64 y, .int .i64 mo, .int .i64 d, .int .i64 h, .int .i64 mi, .int .i64 se, .int .i64 (me : Nat), .int .u32 (c : Nat), .int .i64 (p : Nat), .int .i64 (z : Nat), .bool true, .bool lt], .int .i64 (pl : Nat)] w (RetB (s.size + 74) (EW s me c p z pl DT CK FL) w) := by
  obtain ⟨hs, h0, hc, hk, ht, hD, hC, hF, hD2, hC2, hF2, hp, hz, hme, hpl⟩ := o
  have h := crenc_wide s y mo d h mi se me c p z pl DT CK FL lt w hs hc ht hD hC hF hD2 hC2 hF2 hp hz hme hpl
  rw [show 74 + s.size = s.size + 74 by omega] at h
  have e : fl 4 [33639248] ++ fl 2 [788, 45, FL, me, CK, DT] ++ fl 4 [c, 4294967295, 4294967295] ++ fl 2 [s.size, 28, 0, 0, 0] ++ fl 4 [2175008768, 4294967295] ++ s.data.toList ++ (fl 2 [1, 24] ++ fl 8 [z, p, pl]) = EW s me c p z pl DT CK FL := by rw [fl_nums 4, fl_nums 2]; simp [EW, fl, catK, List.append_assoc]
  rwa [e] at h
set_option maxHeartbeats 1000000 in
theorem page_slim (s : ByteArray) (y mo d h mi se : Int) (me c p z pl DT CK FL : Nat) (lt : Bool) (o : Ok s y mo d h mi se me c p z pl DT CK FL lt) (rest bs : List UInt8) (n : Nat) (hbs : bs = ES s me c p z pl DT CK FL ++ rest) (hlen : bs.length = n) (hn : n ≤ 1000) : Page bs n #[.string s, .int .i64 y, .int .i64 mo, .int .i64 d, .int .i64 h, .int .i64 mi, .int .i64 se, .int .i64 (me : Nat), .int .u32 (c : Nat), .int .i64 (p : Nat), .int .i64 (z : Nat), .bool false, .bool lt] pl (46 + s.size) := by
  intro A ca S w hS hB hnc
  have hen := enc_slim s y mo d h mi se me c p z pl DT CK FL lt o
  have p2 : 256 ^ 2 = 65536 := rfl
  have p4 : 256 ^ 4 = 4294967296 := rfl
  have p8 : 256 ^ 8 = 18446744073709551616 := rfl
  obtain ⟨hs, h0, hc, hk, ht, hD, hC, hF, hD2, hC2, hF2, hp, hz, hme, hpl⟩ := o
  have q0 : bs.drop 0 = leB 33639248 4 ++ (leB 788 2 ++ (leB 20 2 ++ (leB FL 2 ++ (leB me 2 ++ (leB CK 2 ++ (leB DT 2 ++ (leB c 4 ++ (leB p 4 ++ (leB z 4 ++ (leB s.size 2 ++ (leB 0 2 ++ (leB 0 2 ++ (leB 0 2 ++ (leB 0 2 ++ (leB 2175008768 4 ++ (leB pl 4 ++ (s.data.toList ++ rest))))))))))))))))) := by rw [hbs]; simp [ES, catK, List.append_assoc]
  have n0 : num ((bs.drop 0).take 4) = 33639248 := nstep q0 (by omega)
  have q4 := dstep (o' := 4) q0 (leB_len _ _) (by omega)
  have n4 : num ((bs.drop 4).take 2) = 788 := nstep q4 (by omega)
  have q6 := dstep (o' := 6) q4 (leB_len _ _) (by omega)
  have n6 : num ((bs.drop 6).take 2) = 20 := nstep q6 (by omega)
  have q8 := dstep (o' := 8) q6 (leB_len _ _) (by omega)
  have n8 : num ((bs.drop 8).take 2) = FL := nstep q8 (by omega)
  have q10 := dstep (o' := 10) q8 (leB_len _ _) (by omega)
  have n10 : num ((bs.drop 10).take 2) = me := nstep q10 (by omega)
  have q12 := dstep (o' := 12) q10 (leB_len _ _) (by omega)
  have n12 : num ((bs.drop 12).take 2) = CK := nstep q12 (by omega)
  have q14 := dstep (o' := 14) q12 (leB_len _ _) (by omega)
  have n14 : num ((bs.drop 14).take 2) = DT := nstep q14 (by omega)
  have q16 := dstep (o' := 16) q14 (leB_len _ _) (by omega)
  have n16 : num ((bs.drop 16).take 4) = c := nstep q16 (by omega)
  have q20 := dstep (o' := 20) q16 (leB_len _ _) (by omega)
  have n20 : num ((bs.drop 20).take 4) = p := nstep q20 (by omega)
  have q24 := dstep (o' := 24) q20 (leB_len _ _) (by omega)
  have n24 : num ((bs.drop 24).take 4) = z := nstep q24 (by omega)
  have q28 := dstep (o' := 28) q24 (leB_len _ _) (by omega)
  have n28 : num ((bs.drop 28).take 2) = s.size := nstep q28 (by omega)
  have q30 := dstep (o' := 30) q28 (leB_len _ _) (by omega)
  have n30 : num ((bs.drop 30).take 2) = 0 := nstep q30 (by omega)
  have q32 := dstep (o' := 32) q30 (leB_len _ _) (by omega)
  have n32 : num ((bs.drop 32).take 2) = 0 := nstep q32 (by omega)
  have q34 := dstep (o' := 34) q32 (leB_len _ _) (by omega)
  have n34 : num ((bs.drop 34).take 2) = 0 := nstep q34 (by omega)
  have q36 := dstep (o' := 36) q34 (leB_len _ _) (by omega)
  have n36 : num ((bs.drop 36).take 2) = 0 := nstep q36 (by omega)
  have q38 := dstep (o' := 38) q36 (leB_len _ _) (by omega)
  have n38 : num ((bs.drop 38).take 4) = 2175008768 := nstep q38 (by omega)
  have q42 := dstep (o' := 42) q38 (leB_len _ _) (by omega)
  have n42 : num ((bs.drop 42).take 4) = pl := nstep q42 (by omega)
  have q46 := dstep (o' := 46) q42 (leB_len _ _) (by omega)
  have hnm : (⟨((bs.drop 46).take s.size).toArray⟩ : ByteArray) = s := by rw [q46, List.take_left' (by rfl)]
  have hN : 46 + s.size ≤ n := by rw [← hlen, hbs, List.length_append, ES_len]; omega
  obtain ⟨t1, t2⟩ := time_back ht hD hC
  have hq : bs.take (46 + s.size) = ES s me c p z pl DT CK FL := by rw [hbs]; exact List.take_left' (ES_len ..)
  exact rparse_slim_same A n ca bs S w hS 20 FL _ _ me CK DT c p z s.size pl s y mo d h mi se lt hB hn hN hnc n6 n8 n10 n12 n14 n16 n20 n24 n28 n42 rfl rfl (flags_bit hF) t1 (by rw [if_pos rfl]; exact t2) hnm (by omega) rfl hk (ES s me c p z pl DT CK FL) hen hq
set_option maxHeartbeats 1000000 in
theorem page_wide (s : ByteArray) (y mo d h mi se : Int) (me c p z pl DT CK FL : Nat) (lt : Bool) (o : Ok s y mo d h mi se me c p z pl DT CK FL lt) (rest bs : List UInt8) (n : Nat) (hbs : bs = EW s me c p z pl DT CK FL ++ rest) (hlen : bs.length = n) (hn : n ≤ 1000) : Page bs n #[.string s, .int .i64 y, .int .i64 mo, .int .i64 d, .int .i64 h, .int .i64 mi, .int .i64 se, .int .i64 (me : Nat), .int .u32 (c : Nat), .int .i64 (p : Nat), .int .i64 (z : Nat), .bool true, .bool lt] pl (s.size + 74) := by
  intro A ca S w hS hB hnc
  have hen := enc_wide s y mo d h mi se me c p z pl DT CK FL lt o
  have p2 : 256 ^ 2 = 65536 := rfl
  have p4 : 256 ^ 4 = 4294967296 := rfl
  have p8 : 256 ^ 8 = 18446744073709551616 := rfl
  obtain ⟨hs, h0, hc, hk, ht, hD, hC, hF, hD2, hC2, hF2, hp, hz, hme, hpl⟩ := o
  have q0 : bs.drop 0 = leB 33639248 4 ++ (leB 788 2 ++ (leB 45 2 ++ (leB FL 2 ++ (leB me 2 ++ (leB CK 2 ++ (leB DT 2 ++ (leB c 4 ++ (leB 4294967295 4 ++ (leB 4294967295 4 ++ (leB s.size 2 ++ (leB 28 2 ++ (leB 0 2 ++ (leB 0 2 ++ (leB 0 2 ++ (leB 2175008768 4 ++ (leB 4294967295 4 ++ (s.data.toList ++ (leB 1 2 ++ (leB 24 2 ++ (leB z 8 ++ (leB p 8 ++ (leB pl 8 ++ (rest))))))))))))))))))))))) := by rw [hbs]; simp [EW, catK, List.append_assoc]
  have n0 : num ((bs.drop 0).take 4) = 33639248 := nstep q0 (by omega)
  have q4 := dstep (o' := 4) q0 (leB_len _ _) (by omega)
  have n4 : num ((bs.drop 4).take 2) = 788 := nstep q4 (by omega)
  have q6 := dstep (o' := 6) q4 (leB_len _ _) (by omega)
  have n6 : num ((bs.drop 6).take 2) = 45 := nstep q6 (by omega)
  have q8 := dstep (o' := 8) q6 (leB_len _ _) (by omega)
  have n8 : num ((bs.drop 8).take 2) = FL := nstep q8 (by omega)
  have q10 := dstep (o' := 10) q8 (leB_len _ _) (by omega)
  have n10 : num ((bs.drop 10).take 2) = me := nstep q10 (by omega)
  have q12 := dstep (o' := 12) q10 (leB_len _ _) (by omega)
  have n12 : num ((bs.drop 12).take 2) = CK := nstep q12 (by omega)
  have q14 := dstep (o' := 14) q12 (leB_len _ _) (by omega)
  have n14 : num ((bs.drop 14).take 2) = DT := nstep q14 (by omega)
  have q16 := dstep (o' := 16) q14 (leB_len _ _) (by omega)
  have n16 : num ((bs.drop 16).take 4) = c := nstep q16 (by omega)
  have q20 := dstep (o' := 20) q16 (leB_len _ _) (by omega)
  have n20 : num ((bs.drop 20).take 4) = 4294967295 := nstep q20 (by omega)
  have q24 := dstep (o' := 24) q20 (leB_len _ _) (by omega)
  have n24 : num ((bs.drop 24).take 4) = 4294967295 := nstep q24 (by omega)
  have q28 := dstep (o' := 28) q24 (leB_len _ _) (by omega)
  have n28 : num ((bs.drop 28).take 2) = s.size := nstep q28 (by omega)
  have q30 := dstep (o' := 30) q28 (leB_len _ _) (by omega)
  have n30 : num ((bs.drop 30).take 2) = 28 := nstep q30 (by omega)
  have q32 := dstep (o' := 32) q30 (leB_len _ _) (by omega)
  have n32 : num ((bs.drop 32).take 2) = 0 := nstep q32 (by omega)
  have q34 := dstep (o' := 34) q32 (leB_len _ _) (by omega)
  have n34 : num ((bs.drop 34).take 2) = 0 := nstep q34 (by omega)
  have q36 := dstep (o' := 36) q34 (leB_len _ _) (by omega)
  have n36 : num ((bs.drop 36).take 2) = 0 := nstep q36 (by omega)
  have q38 := dstep (o' := 38) q36 (leB_len _ _) (by omega)
  have n38 : num ((bs.drop 38).take 4) = 2175008768 := nstep q38 (by omega)
  have q42 := dstep (o' := 42) q38 (leB_len _ _) (by omega)
  have n42 : num ((bs.drop 42).take 4) = 4294967295 := nstep q42 (by omega)
  have q46 := dstep (o' := 46) q42 (leB_len _ _) (by omega)
  have hnm : (⟨((bs.drop 46).take s.size).toArray⟩ : ByteArray) = s := by rw [q46, List.take_left' (by rfl)]
  have r46 := dstep (o' := s.size + 46) q46 (show s.data.toList.length = s.size from rfl) (by omega)
  have m46 : num ((bs.drop (s.size + 46)).take 2) = 1 := nstep r46 (by omega)
  have r48 := dstep (o' := s.size + 48) r46 (leB_len _ _) (by omega)
  have m48 : num ((bs.drop (s.size + 48)).take 2) = 24 := nstep r48 (by omega)
  have r50 := dstep (o' := s.size + 50) r48 (leB_len _ _) (by omega)
  have m50 : num ((bs.drop (s.size + 50)).take 8) = z := nstep r50 (by omega)
  have r58 := dstep (o' := s.size + 58) r50 (leB_len _ _) (by omega)
  have m58 : num ((bs.drop (s.size + 58)).take 8) = p := nstep r58 (by omega)
  have r66 := dstep (o' := s.size + 66) r58 (leB_len _ _) (by omega)
  have m66 : num ((bs.drop (s.size + 66)).take 8) = pl := nstep r66 (by omega)
  have r74 := dstep (o' := s.size + 74) r66 (leB_len _ _) (by omega)
  have hN : s.size + 74 ≤ n := by rw [← hlen, hbs, List.length_append, EW_len]; omega
  obtain ⟨t1, t2⟩ := time_back ht hD hC
  have hq : bs.take (s.size + 74) = EW s me c p z pl DT CK FL := by rw [hbs]; exact List.take_left' (EW_len ..)
  exact rparse_wide_same A n ca bs S w hS 45 FL _ _ me CK DT c 4294967295 4294967295 s.size 4294967295 s y mo d h mi se lt hB hn (by omega) hnc n6 n8 n10 n12 n14 n16 n20 n24 n28 n42 rfl rfl (flags_bit hF) t1 (by rw [if_pos rfl]; exact t2) hnm z p pl hN m50 m58 m66 (by omega) rfl (fun q hq => by
    rcases (show q = 0 ∨ q = 1 ∨ q = 2 by omega) with rfl | rfl | rfl
    · show num ((bs.drop (s.size + 50)).take 8) ≤ _; rw [m50]; omega
    · show num ((bs.drop (s.size + 58)).take 8) ≤ _; rw [m58]; omega
    · show num ((bs.drop (s.size + 66)).take 8) ≤ _; rw [m66]; omega) hk (EW s me c p z pl DT CK FL) hen hq
theorem cut_leB (bs : List UInt8) (o k o' : Nat) (h : o + k ≤ bs.length) (e : o + k = o') : bs.drop o = leB (num ((bs.drop o).take k)) k ++ bs.drop o' := by
  subst e
  have hl : ((bs.drop o).take k).length = k := by simp; omega
  have h2 := leB_num ((bs.drop o).take k)
  rw [hl] at h2
  rw [h2, ← List.drop_drop, List.take_append_drop]
theorem slim_of (bs : List UInt8) (n ln : Nat) (s : ByteArray) (me c p z pl DT CK FL : Nat) (hlen : bs.length = n) (hN : ln + 46 ≤ n) (n0 : num ((bs.drop 0).take 4) = 33639248) (n4 : num ((bs.drop 4).take 2) = 788) (n6 : num ((bs.drop 6).take 2) = 20) (n8 : num ((bs.drop 8).take 2) = FL) (n10 : num ((bs.drop 10).take 2) = me) (n12 : num ((bs.drop 12).take 2) = CK) (n14 : num ((bs.drop 14).take 2) = DT) (n16 : num ((bs.drop 16).take 4) = c) (n20 : num ((bs.drop 20).take 4) = p) (n24 : num ((bs.drop 24).take 4) = z) (n28 : num ((bs.drop 28).take 2) = ln) (n30 : num ((bs.drop 30).take 2) = 0) (n32 : num ((bs.drop 32).take 2) = 0) (n34 : num ((bs.drop 34).take 2) = 0) (n36 : num ((bs.drop 36).take 2) = 0) (n38 : num ((bs.drop 38).take 4) = 2175008768) (n42 : num ((bs.drop 42).take 4) = pl) (hnm : (⟨((bs.drop 46).take ln).toArray⟩ : ByteArray) = s) : ∃ rest, bs = ES s me c p z pl DT CK FL ++ rest := by
  have hl : s.data.toList = (bs.drop 46).take ln := by rw [← hnm]
  have hsz : s.size = ln := by
    have h1 : s.data.toList.length = s.size := rfl
    rw [← h1, hl, List.length_take, List.length_drop]
    omega
  have e0 := cut_leB bs 0 4 4 (by omega) rfl
  rw [n0] at e0
  have e4 := cut_leB bs 4 2 6 (by omega) rfl
  rw [n4] at e4
  have e6 := cut_leB bs 6 2 8 (by omega) rfl
  rw [n6] at e6
  have e8 := cut_leB bs 8 2 10 (by omega) rfl
  rw [n8] at e8
  have e10 := cut_leB bs 10 2 12 (by omega) rfl
  rw [n10] at e10
  have e12 := cut_leB bs 12 2 14 (by omega) rfl
  rw [n12] at e12
  have e14 := cut_leB bs 14 2 16 (by omega) rfl
  rw [n14] at e14
  have e16 := cut_leB bs 16 4 20 (by omega) rfl
  rw [n16] at e16
  have e20 := cut_leB bs 20 4 24 (by omega) rfl
  rw [n20] at e20
  have e24 := cut_leB bs 24 4 28 (by omega) rfl
  rw [n24] at e24
  have e28 := cut_leB bs 28 2 30 (by omega) rfl
  rw [n28] at e28
  have e30 := cut_leB bs 30 2 32 (by omega) rfl
  rw [n30] at e30
  have e32 := cut_leB bs 32 2 34 (by omega) rfl
  rw [n32] at e32
  have e34 := cut_leB bs 34 2 36 (by omega) rfl
  rw [n34] at e34
  have e36 := cut_leB bs 36 2 38 (by omega) rfl
  rw [n36] at e36
  have e38 := cut_leB bs 38 4 42 (by omega) rfl
  rw [n38] at e38
  have e42 := cut_leB bs 42 4 46 (by omega) rfl
  rw [n42] at e42
  have e46 : bs.drop 46 = s.data.toList ++ bs.drop (ln + 46) := by
    rw [hl, Nat.add_comm ln 46, ← List.drop_drop, List.take_append_drop]
  have q : bs.drop 0 = leB 33639248 4 ++ (leB 788 2 ++ (leB 20 2 ++ (leB FL 2 ++ (leB me 2 ++ (leB CK 2 ++ (leB DT 2 ++ (leB c 4 ++ (leB p 4 ++ (leB z 4 ++ (leB ln 2 ++ (leB 0 2 ++ (leB 0 2 ++ (leB 0 2 ++ (leB 0 2 ++ (leB 2175008768 4 ++ (leB pl 4 ++ (s.data.toList ++ bs.drop (ln + 46)))))))))))))))))) := by
    rw [e0, e4, e6, e8, e10, e12, e14, e16, e20, e24, e28, e30, e32, e34, e36, e38, e42, e46]
  refine ⟨bs.drop (s.size + 46), ?_⟩
  have q' : bs = _ := q
  rw [hsz.symm] at q'
  exact q'.trans (by simp [ES, catK, List.append_assoc])
theorem wide_of (bs : List UInt8) (n ln : Nat) (s : ByteArray) (me c p z pl DT CK FL : Nat) (hlen : bs.length = n) (hN : ln + 74 ≤ n) (n0 : num ((bs.drop 0).take 4) = 33639248) (n4 : num ((bs.drop 4).take 2) = 788) (n6 : num ((bs.drop 6).take 2) = 45) (n8 : num ((bs.drop 8).take 2) = FL) (n10 : num ((bs.drop 10).take 2) = me) (n12 : num ((bs.drop 12).take 2) = CK) (n14 : num ((bs.drop 14).take 2) = DT) (n16 : num ((bs.drop 16).take 4) = c) (n20 : num ((bs.drop 20).take 4) = 4294967295) (n24 : num ((bs.drop 24).take 4) = 4294967295) (n28 : num ((bs.drop 28).take 2) = ln) (n30 : num ((bs.drop 30).take 2) = 28) (n32 : num ((bs.drop 32).take 2) = 0) (n34 : num ((bs.drop 34).take 2) = 0) (n36 : num ((bs.drop 36).take 2) = 0) (n38 : num ((bs.drop 38).take 4) = 2175008768) (n42 : num ((bs.drop 42).take 4) = 4294967295) (m46 : num ((bs.drop (ln + 46)).take 2) = 1) (m48 : num ((bs.drop (ln + 48)).take 2) = 24) (m50 : num ((bs.drop (ln + 50)).take 8) = z) (m58 : num ((bs.drop (ln + 58)).take 8) = p) (m66 : num ((bs.drop (ln + 66)).take 8) = pl) (hnm : (⟨((bs.drop 46).take ln).toArray⟩ : ByteArray) = s) : ∃ rest, bs = EW s me c p z pl DT CK FL ++ rest := by
  have hl : s.data.toList = (bs.drop 46).take ln := by rw [← hnm]
  have hsz : s.size = ln := by
    have h1 : s.data.toList.length = s.size := rfl
    rw [← h1, hl, List.length_take, List.length_drop]
    omega
  have e0 := cut_leB bs 0 4 4 (by omega) rfl
  rw [n0] at e0
  have e4 := cut_leB bs 4 2 6 (by omega) rfl
  rw [n4] at e4
  have e6 := cut_leB bs 6 2 8 (by omega) rfl
  rw [n6] at e6
  have e8 := cut_leB bs 8 2 10 (by omega) rfl
  rw [n8] at e8
  have e10 := cut_leB bs 10 2 12 (by omega) rfl
  rw [n10] at e10
  have e12 := cut_leB bs 12 2 14 (by omega) rfl
  rw [n12] at e12
  have e14 := cut_leB bs 14 2 16 (by omega) rfl
  rw [n14] at e14
  have e16 := cut_leB bs 16 4 20 (by omega) rfl
  rw [n16] at e16
  have e20 := cut_leB bs 20 4 24 (by omega) rfl
  rw [n20] at e20
  have e24 := cut_leB bs 24 4 28 (by omega) rfl
  rw [n24] at e24
  have e28 := cut_leB bs 28 2 30 (by omega) rfl
  rw [n28] at e28
  have e30 := cut_leB bs 30 2 32 (by omega) rfl
  rw [n30] at e30
  have e32 := cut_leB bs 32 2 34 (by omega) rfl
  rw [n32] at e32
  have e34 := cut_leB bs 34 2 36 (by omega) rfl
  rw [n34] at e34
  have e36 := cut_leB bs 36 2 38 (by omega) rfl
  rw [n36] at e36
  have e38 := cut_leB bs 38 4 42 (by omega) rfl
  rw [n38] at e38
  have e42 := cut_leB bs 42 4 46 (by omega) rfl
  rw [n42] at e42
  have e46 : bs.drop 46 = s.data.toList ++ bs.drop (ln + 46) := by
    rw [hl, Nat.add_comm ln 46, ← List.drop_drop, List.take_append_drop]
  have f46 := cut_leB bs (ln + 46) 2 (ln + 48) (by omega) (by omega)
  rw [m46] at f46
  have f48 := cut_leB bs (ln + 48) 2 (ln + 50) (by omega) (by omega)
  rw [m48] at f48
  have f50 := cut_leB bs (ln + 50) 8 (ln + 58) (by omega) (by omega)
  rw [m50] at f50
  have f58 := cut_leB bs (ln + 58) 8 (ln + 66) (by omega) (by omega)
  rw [m58] at f58
  have f66 := cut_leB bs (ln + 66) 8 (ln + 74) (by omega) (by omega)
  rw [m66] at f66
  have q : bs.drop 0 = leB 33639248 4 ++ (leB 788 2 ++ (leB 45 2 ++ (leB FL 2 ++ (leB me 2 ++ (leB CK 2 ++ (leB DT 2 ++ (leB c 4 ++ (leB 4294967295 4 ++ (leB 4294967295 4 ++ (leB ln 2 ++ (leB 28 2 ++ (leB 0 2 ++ (leB 0 2 ++ (leB 0 2 ++ (leB 2175008768 4 ++ (leB 4294967295 4 ++ (s.data.toList ++ (leB 1 2 ++ (leB 24 2 ++ (leB z 8 ++ (leB p 8 ++ (leB pl 8 ++ (bs.drop (ln + 74)))))))))))))))))))))))) := by
    rw [e0, e4, e6, e8, e10, e12, e14, e16, e20, e24, e28, e30, e32, e34, e36, e38, e42, e46, f46, f48, f50, f58, f66]
  refine ⟨bs.drop (s.size + 74), ?_⟩
  have q' : bs = _ := q
  rw [hsz.symm] at q'
  exact q'.trans (by simp [EW, catK, List.append_assoc])
theorem ok_read (s : ByteArray) (me c p z pl dt ck fl : Nat) (lt : Bool) (hk : codeC s (rightD dt ck) me p z pl = 0) (hF : flagsH s lt = (fl : Nat)) (hc : c < 4294967296) (hdt : dt < 65536) (hck : ck < 65536) (hfl : fl < 65536) :
    Ok s (1980 + (dt : Int) / 512) ((dt : Int) / 32 % 16) ((dt : Int) % 32) ((ck : Int) / 2048) ((ck : Int) / 32 % 64) ((ck : Int) % 32 * 2) me c p z pl dt ck fl lt := by
  obtain ⟨hk0, hl0, hl1⟩ := codeC_zero hk
  obtain ⟨h1, h2, h3, h4, h5, h6, h7⟩ := codeH_zero hk0
  have h0 : s.size ≠ 0 := fun h => by rw [nameOk_empty h] at h1; cases h1
  have hl2 : pl < 4294967295 := by
    have h9 := hk
    unfold codeC at h9
    rw [if_pos hk0] at h9
    split at h9
    · cases h9
    · omega
  exact ⟨nameOk_size h1, h0, hc, hk, h2, by unfold dateI; omega, by unfold clockI; omega, hF, hdt, hck, hfl, by omega, by omega, by omega, hl2⟩
theorem wrap_small (v : Nat) (hv : v < 18446744073709551616) (h : 0 ≤ IntKind.i64.wrap (v : Int)) : IntKind.i64.wrap (v : Int) = (v : Int) := by
  rw [IntKind.wrap_i64] at h ⊢
  omega
theorem read_none (bs : List UInt8) (n : Nat) (hlen : bs.length = n) (hn : n ≤ 1000) (h1 : ¬ Slim bs) (h2 : ¬ Wide bs) : Bad bs n := by
  cases hx : (num ((bs.drop 6).take 2) == 45) with
  | false =>
    refine ⟨_, _, _, _, _, _, _, _, _, _, _, _, _, _, _, _, ?_, fun g A cap w hE hR hnc hcc hg3 => cread_slim g A n cap bs _ _ _ _ _ _ _ _ _ _ _ _ _ _ _ _ _ _ _ _ _ _ _ w hE hR hn hnc hcc rfl rfl rfl rfl rfl rfl rfl rfl rfl rfl hx rfl rfl rfl rfl hg3 rfl rfl rfl rfl⟩
    intro hK
    have hm := bad_mem _ hK (by
      intro x hx
      simp only [clS, clB, zl, List.cons_append, List.nil_append, List.mem_cons, List.not_mem_nil, or_false] at hx
      rcases hx with rfl | rfl | rfl | rfl | rfl | rfl | rfl | rfl | rfl | rfl | rfl | rfl | rfl | rfl | rfl | rfl | rfl | rfl | rfl | rfl | rfl | rfl | rfl | rfl | rfl | rfl | rfl | rfl | rfl
      all_goals simp)
    simp only [clS, clB, zl, List.cons_append, List.nil_append, List.mem_cons, List.not_mem_nil, or_false, forall_eq_or_imp, forall_eq] at hm
    obtain ⟨-, a1, -, a2, -, -, a3, -, -, -, a4, -, -, -, -, -, a5, -, a6, -, a7, -, a8, -, a9, -, a10, a11, a12⟩ := hm
    simp only [beq_iff_eq, decide_eq_true_eq] at a1 a2 a3 a5 a6 a7 a8 a9 a10 a11 a12
    have o := ok_read (⟨((bs.drop 46).take (num ((bs.drop 28).take 2))).toArray⟩ : ByteArray) (num ((bs.drop 10).take 2)) (num ((bs.drop 16).take 4)) (num ((bs.drop 20).take 4)) (num ((bs.drop 24).take 4)) (num ((bs.drop 42).take 4)) (num ((bs.drop 14).take 2)) (num ((bs.drop 12).take 2)) (num ((bs.drop 8).take 2)) (num ((bs.drop 8).take 2) / 8 % 2 == 1) a12 a11.symm (num_bd _ _ _ _ rfl) (num_bd _ _ _ _ rfl) (num_bd _ _ _ _ rfl) (num_bd _ _ _ _ rfl)
    exact h1 ⟨_, _, _, _, _, _, _, _, _, _, _, _, _, _, _, _, o, slim_of bs n _ _ _ _ _ _ _ _ _ _ hlen (by omega) a1 a2 a3 rfl rfl rfl rfl rfl rfl rfl rfl a5 a6 a7 a8 a9 rfl rfl⟩
  | true =>
    refine ⟨_, _, _, _, _, _, _, _, _, _, _, _, _, _, _, _, ?_, fun g A cap w hE hR hnc hcc hg3 => cread_wide g A n cap bs _ _ _ _ _ _ _ _ _ _ _ _ _ _ _ _ _ _ _ _ _ _ _ _ _ _ _ _ _ w hE hR hn hnc hcc rfl rfl rfl rfl rfl rfl rfl rfl rfl rfl hx rfl rfl rfl rfl rfl rfl rfl rfl rfl rfl hg3 rfl rfl rfl rfl⟩
    intro hK
    have hm := bad_mem _ hK (by
      intro x hx
      simp only [clW, clC, clR, clD, zl, List.cons_append, List.nil_append, List.mem_cons, List.not_mem_nil, or_false] at hx
      rcases hx with rfl | rfl | rfl | rfl | rfl | rfl | rfl | rfl | rfl | rfl | rfl | rfl | rfl | rfl | rfl | rfl | rfl | rfl | rfl | rfl | rfl | rfl | rfl | rfl | rfl | rfl | rfl | rfl | rfl | rfl | rfl | rfl | rfl | rfl | rfl | rfl
      all_goals simp)
    simp only [clW, clC, clR, clD, zl, List.cons_append, List.nil_append, List.mem_cons, List.not_mem_nil, or_false, forall_eq_or_imp, forall_eq] at hm
    obtain ⟨-, a1, -, a2, -, -, -, -, -, a4, -, -, -, -, -, a5, -, a6, -, a7, -, a8, -, a9, -, -, a10, -, a11, -, a12, -, -, a13, a14, a15⟩ := hm
    simp only [beq_iff_eq, decide_eq_true_eq, Bool.and_eq_true] at a1 a2 a5 a6 a7 a8 a9 a10 a11 a12 a13 a14 a15 hx
    obtain ⟨hk0, hl0, hl1⟩ := codeC_zero a15
    obtain ⟨-, -, -, hz1, -, hp1, -⟩ := codeH_zero hk0
    rw [wrap_small _ (num_bd _ _ 8 _ rfl) hz1, wrap_small _ (num_bd _ _ 8 _ rfl) hp1, wrap_small _ (num_bd _ _ 8 _ rfl) hl0] at a15
    have o := ok_read (⟨((bs.drop 46).take (num ((bs.drop 28).take 2))).toArray⟩ : ByteArray) (num ((bs.drop 10).take 2)) (num ((bs.drop 16).take 4)) (num ((bs.drop (num ((bs.drop 28).take 2) + 58)).take 8)) (num ((bs.drop (num ((bs.drop 28).take 2) + 50)).take 8)) (num ((bs.drop (num ((bs.drop 28).take 2) + 66)).take 8)) (num ((bs.drop 14).take 2)) (num ((bs.drop 12).take 2)) (num ((bs.drop 8).take 2)) (num ((bs.drop 8).take 2) / 8 % 2 == 1) a15 a14.symm (num_bd _ _ _ _ rfl) (num_bd _ _ _ _ rfl) (num_bd _ _ _ _ rfl) (num_bd _ _ _ _ rfl)
    exact h2 ⟨_, _, _, _, _, _, _, _, _, _, _, _, _, _, _, _, o, wide_of bs n _ _ _ _ _ _ _ _ _ _ hlen a13 a1 a2 hx rfl rfl rfl rfl rfl a10.1 a10.2.1 rfl a5 a6 a7 a8 a9 a10.2.2 a11 a12 rfl rfl rfl rfl⟩
end Go.Proofs.YtdmglpnieiiigaaDoor
