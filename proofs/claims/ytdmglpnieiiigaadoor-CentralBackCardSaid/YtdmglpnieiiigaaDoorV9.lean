/- Entries that are written and read. -/
import Derived.Test.YtdmglpnieiiigaaDoorV8
import Derived.Test.YtdmglpnieiiigaaDoorV7
import Derived.Test.YtdmglpnieiiigaaDoorV6
import Derived.Test.YtdmglpnieiiigaaDoorK4b
namespace Go.Proofs.YtdmglpnieiiigaaDoor
open Go.RowKit

theorem add_zero_addr (A : Option Addr) : Option.map (fun x => x.add 0) A = A := by cases A <;> rfl
theorem parse0_ok (A : Option Addr) (n cA : Nat) (bs : List UInt8) (S : Nat → Prop) (w : World) (hE : Env w) (hb : Bs w S A n bs) (hnn : n ≤ 1000) (hnc : n ≤ cA) (hcc : cA ≤ 9223372036854775807) (hca : cA ≠ 0) (m : Nat) (hm : min n 329 = m) (L : Nat) (s : ByteArray) (y mo d h mi se me c p z : Int) (wd lt : Bool) (pl : Int) (hL : L ≤ 400)
    (hread : ∀ (g : Nat) (A : Option Addr) (cap : Nat) (w : World), Env w → Rdr w g A m cap (bs.take m) 0 → m ≤ cap → cap ≤ 9223372036854775807 → 3 ≤ g → Calls Tryd.prog 17 #[.pointer (some ⟨g, 0, none⟩)] w (RdH w g A m cap L 0 (.agg #[.string s, .int .i64 y, .int .i64 mo, .int .i64 d, .int .i64 h, .int .i64 mi, .int .i64 se, .int .i64 me, .int .u32 c, .int .i64 p, .int .i64 z, .bool wd, .bool lt, .int .i64 pl]))) :
    Calls Tryd.prog 12 #[.slice A n cA, .int .i64 0] w fun e w' => e = .returned (.tuple #[.agg #[.string s, .int .i64 y, .int .i64 mo, .int .i64 d, .int .i64 h, .int .i64 mi, .int .i64 se, .int .i64 me, .int .u32 c, .int .i64 p, .int .i64 z, .bool wd, .bool lt, .int .i64 pl], .int .i64 (L : Nat), .int .i64 0]) ∧ Below w.heap.size w w' := by
  have hg := World.block_lt_of_cell? w _ hE.2.choose_spec
  have hg : 2 < w.heap.size := hg
  have h := parse_ok_mid A n cA 0 m m (bs.take m) S w hE (Nat.zero_le _) hnn hnc hcc (by simpa using hm) (by simp) hca (by rw [add_zero_addr]; exact hb.take (by omega)) L s y mo d h mi se me c p z wd lt pl hL (fun g A2 c2 w' hR h1 hE' h2 h3 => hread g A2 c2 w' hE' hR h2 h3 (by omega))
  rw [Nat.zero_add] at h
  exact h
theorem parse0_bad (A : Option Addr) (n cA : Nat) (bs : List UInt8) (S : Nat → Prop) (w : World) (hE : Env w) (hb : Bs w S A n bs) (hnn : n ≤ 1000) (hnc : n ≤ cA) (hca : cA ≠ 0) (m : Nat) (hm : min n 329 = m) (K : Int) (L : Nat) (v : Value) (hK : K ≠ 0)
    (hread : ∀ (g : Nat) (A : Option Addr) (cap : Nat) (w : World), Env w → Rdr w g A m cap (bs.take m) 0 → m ≤ cap → cap ≤ 9223372036854775807 → 3 ≤ g → Calls Tryd.prog 17 #[.pointer (some ⟨g, 0, none⟩)] w (RdH w g A m cap L K v)) :
    Calls Tryd.prog 12 #[.slice A n cA, .int .i64 0] w fun e w' => e = .returned (.tuple #[.agg #[.string ⟨#[]⟩, .int .i64 0, .int .i64 0, .int .i64 0, .int .i64 0, .int .i64 0, .int .i64 0, .int .i64 0, .int .u32 0, .int .i64 0, .int .i64 0, .bool false, .bool false, .int .i64 0], .int .i64 0, .int .i64 K]) ∧ Below w.heap.size w w' := by
  have hg := World.block_lt_of_cell? w _ hE.2.choose_spec
  have hg : 2 < w.heap.size := hg
  exact parse_bad_mid A n cA 0 m m (bs.take m) S w hE (Nat.zero_le _) hnn hnc (by simpa using hm) (by simp) hca (by rw [add_zero_addr]; exact hb.take (by omega)) K L v hK (fun g A2 c2 w' hR h1 hE' h2 h3 => hread g A2 c2 w' hE' hR h2 h3 (by omega))
/-- what is written as E, LE octets, is read as `want`; less of it is not read -/
def Good (want : Value) (E : List UInt8) (LE : Nat) : Prop :=
  (46 ≤ LE ∧ LE ≤ 329 ∧ E.length = LE) ∧
  (∀ (w : World) (A : Option Addr) (n cA : Nat) (rest : List UInt8) (S : Nat → Prop), Env w → Bs w S A n (E ++ rest) → n ≤ 1000 → n ≤ cA → cA ≤ 9223372036854775807 →
    Calls Tryd.prog 12 #[.slice A n cA, .int .i64 0] w fun e w' => e = .returned (.tuple #[want, .int .i64 (LE : Nat), .int .i64 0]) ∧ Below w.heap.size w w') ∧
  (∀ (w : World) (A : Option Addr) (n cA : Nat) (S : Nat → Prop), Env w → Bs w S A n (E.take n) → n < LE → n ≤ cA → cA ≠ 0 →
    ∃ K : Int, K ≠ 0 ∧ Calls Tryd.prog 12 #[.slice A n cA, .int .i64 0] w fun e w' => e = .returned (.tuple #[.agg #[.string ⟨#[]⟩, .int .i64 0, .int .i64 0, .int .i64 0, .int .i64 0, .int .i64 0, .int .i64 0, .int .i64 0, .int .u32 0, .int .i64 0, .int .i64 0, .bool false, .bool false, .int .i64 0], .int .i64 0, .int .i64 K]) ∧ Below w.heap.size w w')
theorem enc_num_slim (s : ByteArray) (y mo d h mi se : Int) (me c p z pl DT CK FL : Nat) (lt : Bool) (o : Ok s y mo d h mi se me c p z pl DT CK FL lt) (rest bs : List UInt8) (hbs : bs = ES s me c p z pl DT CK FL ++ rest) : num ((bs.drop 6).take 2) = 20 ∧ num ((bs.drop 28).take 2) = s.size := by
  have p2 : 256 ^ 2 = 65536 := rfl
  have p4 : 256 ^ 4 = 4294967296 := rfl
  have p8 : 256 ^ 8 = 18446744073709551616 := rfl
  obtain ⟨hs, h0, hc, hk, ht, hD, hC, hF, hD2, hC2, hF2, hp, hz, hme, hpl⟩ := o
  have q0 : bs.drop 0 = leB 33639248 4 ++ (leB 788 2 ++ (leB 20 2 ++ (leB FL 2 ++ (leB me 2 ++ (leB CK 2 ++ (leB DT 2 ++ (leB c 4 ++ (leB p 4 ++ (leB z 4 ++ (leB s.size 2 ++ (leB 0 2 ++ (leB 0 2 ++ (leB 0 2 ++ (leB 0 2 ++ (leB 2175008768 4 ++ (leB pl 4 ++ (s.data.toList ++ rest))))))))))))))))) := by rw [hbs]; simp [ES, catK, List.append_assoc]
  have n0 : num ((bs.drop 0).take 4) = 33639248 := nstep q0 (by omega)
  have q4 := dstep (o' := 4) q0 (leB_len _ _) (by omega)
  have n4 : num ((bs.drop 4).take 2) = 788 := nstep q4 (by omega)
  have q6 := dstep (o' := 6) q4 (leB_len _ _) (by omega)
  have n6 : num ((bs.drop 6).take 2) = 20 := nstep q6 (by omega)
  have q8 := dstep (o' := 8) q6 (leB_len _ _) (by omega)
  have n8 : num ((bs.drop 8).take 2) = FL := nstep q8 (by omega)
  have q10 := dstep (o' := 10) q8 (leB_len _ _) (by omega)
  have n10 : num ((bs.drop 10).take 2) = me := nstep q10 (by omega)
  have q12 := dstep (o' := 12) q10 (leB_len _ _) (by omega)
  have n12 : num ((bs.drop 12).take 2) = CK := nstep q12 (by omega)
  have q14 := dstep (o' := 14) q12 (leB_len _ _) (by omega)
  have n14 : num ((bs.drop 14).take 2) = DT := nstep q14 (by omega)
  have q16 := dstep (o' := 16) q14 (leB_len _ _) (by omega)
  have n16 : num ((bs.drop 16).take 4) = c := nstep q16 (by omega)
  have q20 := dstep (o' := 20) q16 (leB_len _ _) (by omega)
  have n20 : num ((bs.drop 20).take 4) = p := nstep q20 (by omega)
  have q24 := dstep (o' := 24) q20 (leB_len _ _) (by omega)
  have n24 : num ((bs.drop 24).take 4) = z := nstep q24 (by omega)
  have q28 := dstep (o' := 28) q24 (leB_len _ _) (by omega)
  have n28 : num ((bs.drop 28).take 2) = s.size := nstep q28 (by omega)
  have q30 := dstep (o' := 30) q28 (leB_len _ _) (by omega)
  have n30 : num ((bs.drop 30).take 2) = 0 := nstep q30 (by omega)
  have q32 := dstep (o' := 32) q30 (leB_len _ _) (by omega)
  have n32 : num ((bs.drop 32).take 2) = 0 := nstep q32 (by omega)
  have q34 := dstep (o' := 34) q32 (leB_len _ _) (by omega)
  have n34 : num ((bs.drop 34).take 2) = 0 := nstep q34 (by omega)
  have q36 := dstep (o' := 36) q34 (leB_len _ _) (by omega)
  have n36 : num ((bs.drop 36).take 2) = 0 := nstep q36 (by omega)
  have q38 := dstep (o' := 38) q36 (leB_len _ _) (by omega)
  have n38 : num ((bs.drop 38).take 4) = 2175008768 := nstep q38 (by omega)
  have q42 := dstep (o' := 42) q38 (leB_len _ _) (by omega)
  have n42 : num ((bs.drop 42).take 4) = pl := nstep q42 (by omega)
  have q46 := dstep (o' := 46) q42 (leB_len _ _) (by omega)
  have hnm : (⟨((bs.drop 46).take s.size).toArray⟩ : ByteArray) = s := by rw [q46, List.take_left' (by rfl)]
  exact ⟨n6, n28⟩
theorem enc_num_wide (s : ByteArray) (y mo d h mi se : Int) (me c p z pl DT CK FL : Nat) (lt : Bool) (o : Ok s y mo d h mi se me c p z pl DT CK FL lt) (rest bs : List UInt8) (hbs : bs = EW s me c p z pl DT CK FL ++ rest) : num ((bs.drop 6).take 2) = 45 ∧ num ((bs.drop 28).take 2) = s.size := by
  have p2 : 256 ^ 2 = 65536 := rfl
  have p4 : 256 ^ 4 = 4294967296 := rfl
  have p8 : 256 ^ 8 = 18446744073709551616 := rfl
  obtain ⟨hs, h0, hc, hk, ht, hD, hC, hF, hD2, hC2, hF2, hp, hz, hme, hpl⟩ := o
  have q0 : bs.drop 0 = leB 33639248 4 ++ (leB 788 2 ++ (leB 45 2 ++ (leB FL 2 ++ (leB me 2 ++ (leB CK 2 ++ (leB DT 2 ++ (leB c 4 ++ (leB 4294967295 4 ++ (leB 4294967295 4 ++ (leB s.size 2 ++ (leB 28 2 ++ (leB 0 2 ++ (leB 0 2 ++ (leB 0 2 ++ (leB 2175008768 4 ++ (leB 4294967295 4 ++ (s.data.toList ++ (leB 1 2 ++ (leB 24 2 ++ (leB z 8 ++ (leB p 8 ++ (leB pl 8 ++ (rest))))))))))))))))))))))) := by rw [hbs]; simp [EW, catK, List.append_assoc]
  have n0 : num ((bs.drop 0).take 4) = 33639248 := nstep q0 (by omega)
  have q4 := dstep (o' := 4) q0 (leB_len _ _) (by omega)
  have n4 : num ((bs.drop 4).take 2) = 788 := nstep q4 (by omega)
  have q6 := dstep (o' := 6) q4 (leB_len _ _) (by omega)
  have n6 : num ((bs.drop 6).take 2) = 45 := nstep q6 (by omega)
  have q8 := dstep (o' := 8) q6 (leB_len _ _) (by omega)
  have n8 : num ((bs.drop 8).take 2) = FL := nstep q8 (by omega)
  have q10 := dstep (o' := 10) q8 (leB_len _ _) (by omega)
  have n10 : num ((bs.drop 10).take 2) = me := nstep q10 (by omega)
  have q12 := dstep (o' := 12) q10 (leB_len _ _) (by omega)
  have n12 : num ((bs.drop 12).take 2) = CK := nstep q12 (by omega)
  have q14 := dstep (o' := 14) q12 (leB_len _ _) (by omega)
  have n14 : num ((bs.drop 14).take 2) = DT := nstep q14 (by omega)
  have q16 := dstep (o' := 16) q14 (leB_len _ _) (by omega)
  have n16 : num ((bs.drop 16).take 4) = c := nstep q16 (by omega)
  have q20 := dstep (o' := 20) q16 (leB_len _ _) (by omega)
  have n20 : num ((bs.drop 20).take 4) = 4294967295 := nstep q20 (by omega)
  have q24 := dstep (o' := 24) q20 (leB_len _ _) (by omega)
  have n24 : num ((bs.drop 24).take 4) = 4294967295 := nstep q24 (by omega)
  have q28 := dstep (o' := 28) q24 (leB_len _ _) (by omega)
  have n28 : num ((bs.drop 28).take 2) = s.size := nstep q28 (by omega)
  have q30 := dstep (o' := 30) q28 (leB_len _ _) (by omega)
  have n30 : num ((bs.drop 30).take 2) = 28 := nstep q30 (by omega)
  have q32 := dstep (o' := 32) q30 (leB_len _ _) (by omega)
  have n32 : num ((bs.drop 32).take 2) = 0 := nstep q32 (by omega)
  have q34 := dstep (o' := 34) q32 (leB_len _ _) (by omega)
  have n34 : num ((bs.drop 34).take 2) = 0 := nstep q34 (by omega)
  have q36 := dstep (o' := 36) q34 (leB_len _ _) (by omega)
  have n36 : num ((bs.drop 36).take 2) = 0 := nstep q36 (by omega)
  have q38 := dstep (o' := 38) q36 (leB_len _ _) (by omega)
  have n38 : num ((bs.drop 38).take 4) = 2175008768 := nstep q38 (by omega)
  have q42 := dstep (o' := 42) q38 (leB_len _ _) (by omega)
  have n42 : num ((bs.drop 42).take 4) = 4294967295 := nstep q42 (by omega)
  have q46 := dstep (o' := 46) q42 (leB_len _ _) (by omega)
  have hnm : (⟨((bs.drop 46).take s.size).toArray⟩ : ByteArray) = s := by rw [q46, List.take_left' (by rfl)]
  have r46 := dstep (o' := s.size + 46) q46 (show s.data.toList.length = s.size from rfl) (by omega)
  have m46 : num ((bs.drop (s.size + 46)).take 2) = 1 := nstep r46 (by omega)
  have r48 := dstep (o' := s.size + 48) r46 (leB_len _ _) (by omega)
  have m48 : num ((bs.drop (s.size + 48)).take 2) = 24 := nstep r48 (by omega)
  have r50 := dstep (o' := s.size + 50) r48 (leB_len _ _) (by omega)
  have m50 : num ((bs.drop (s.size + 50)).take 8) = z := nstep r50 (by omega)
  have r58 := dstep (o' := s.size + 58) r50 (leB_len _ _) (by omega)
  have m58 : num ((bs.drop (s.size + 58)).take 8) = p := nstep r58 (by omega)
  have r66 := dstep (o' := s.size + 66) r58 (leB_len _ _) (by omega)
  have m66 : num ((bs.drop (s.size + 66)).take 8) = pl := nstep r66 (by omega)
  have r74 := dstep (o' := s.size + 74) r66 (leB_len _ _) (by omega)
  exact ⟨n6, n28⟩
theorem good_slim (s : ByteArray) (y mo d h mi se : Int) (me c p z pl DT CK FL : Nat) (lt : Bool) (o : Ok s y mo d h mi se me c p z pl DT CK FL lt) : Good (.agg #[.string s, .int .i64 y, .int .i64 mo, .int .i64 d, .int .i64 h, .int .i64 mi, .int .i64 se, .int .i64 (me : Nat), .int .u32 (c : Nat), .int .i64 (p : Nat), .int .i64 (z : Nat), .bool false, .bool lt, .int .i64 (pl : Nat)]) (ES s me c p z pl DT CK FL) (46 + s.size) := by
  have hsz := o.hs
  have hlE : (ES s me c p z pl DT CK FL).length = 46 + s.size := ES_len ..
  obtain ⟨E, hEE⟩ : ∃ E, (ES s me c p z pl DT CK FL) = E := ⟨_, rfl⟩
  rw [hEE] at hlE ⊢
  refine ⟨⟨by omega, by omega, hlE⟩, fun w A n cA rest S hE hb hn hnc hcc => ?_, fun w A n cA S hE hb hn hnc hca => ?_⟩
  · have hln := hb.len
    rw [List.length_append, hlE] at hln
    have hm : 46 + s.size ≤ min n 329 := by omega
    refine parse0_ok A n cA _ S w hE hb hn hnc hcc (by omega) (min n 329) rfl (46 + s.size) s y mo d h mi se me c p z false lt pl (by omega) fun g A2 cap w' hE' hR h1 h2 h3 => ?_
    refine reads_slim s y mo d h mi se me c p z pl DT CK FL lt o (rest.take (min n 329 - (46 + s.size))) _ (min n 329) ?_ ?_ (by omega) g A2 cap w' hE' hR h1 h2 h3
    · rw [hEE, List.take_append, hlE, List.take_of_length_le (by omega)]
    · rw [List.length_take, List.length_append, hlE]; omega
  · have hmm : min n 329 = n := by omega
    obtain ⟨q1, q2⟩ := enc_num_slim s y mo d h mi se me c p z pl DT CK FL lt o [] E (by rw [← hEE]; simp)
    have hbt : (E.take n).take n = E.take n := by rw [List.take_take, Nat.min_self]
    obtain ⟨K, L, s', y', mo', d', h', mi', se', me', c', p', z', wd', lt', pl', hK, hrd⟩ := pre_read (E.take n) n s.size false (by omega)
      (fun h28 => by rw [take_drop_take _ _ _ _ (by omega), q2]) (fun h28 => by rw [take_drop_take _ _ _ _ (by omega), q1]; rfl) (by simp; omega)
    refine ⟨K, hK, parse0_bad A n cA _ S w hE hb (by omega) hnc hca n hmm K L _ hK (by rw [hbt]; exact hrd)⟩
theorem good_wide (s : ByteArray) (y mo d h mi se : Int) (me c p z pl DT CK FL : Nat) (lt : Bool) (o : Ok s y mo d h mi se me c p z pl DT CK FL lt) : Good (.agg #[.string s, .int .i64 y, .int .i64 mo, .int .i64 d, .int .i64 h, .int .i64 mi, .int .i64 se, .int .i64 (me : Nat), .int .u32 (c : Nat), .int .i64 (p : Nat), .int .i64 (z : Nat), .bool true, .bool lt, .int .i64 (pl : Nat)]) (EW s me c p z pl DT CK FL) (s.size + 74) := by
  have hsz := o.hs
  have hlE : (EW s me c p z pl DT CK FL).length = s.size + 74 := EW_len ..
  obtain ⟨E, hEE⟩ : ∃ E, (EW s me c p z pl DT CK FL) = E := ⟨_, rfl⟩
  rw [hEE] at hlE ⊢
  refine ⟨⟨by omega, by omega, hlE⟩, fun w A n cA rest S hE hb hn hnc hcc => ?_, fun w A n cA S hE hb hn hnc hca => ?_⟩
  · have hln := hb.len
    rw [List.length_append, hlE] at hln
    have hm : s.size + 74 ≤ min n 329 := by omega
    refine parse0_ok A n cA _ S w hE hb hn hnc hcc (by omega) (min n 329) rfl (s.size + 74) s y mo d h mi se me c p z true lt pl (by omega) fun g A2 cap w' hE' hR h1 h2 h3 => ?_
    refine reads_wide s y mo d h mi se me c p z pl DT CK FL lt o (rest.take (min n 329 - (s.size + 74))) _ (min n 329) ?_ ?_ (by omega) g A2 cap w' hE' hR h1 h2 h3
    · rw [hEE, List.take_append, hlE, List.take_of_length_le (by omega)]
    · rw [List.length_take, List.length_append, hlE]; omega
  · have hmm : min n 329 = n := by omega
    obtain ⟨q1, q2⟩ := enc_num_wide s y mo d h mi se me c p z pl DT CK FL lt o [] E (by rw [← hEE]; simp)
    have hbt : (E.take n).take n = E.take n := by rw [List.take_take, Nat.min_self]
    obtain ⟨K, L, s', y', mo', d', h', mi', se', me', c', p', z', wd', lt', pl', hK, hrd⟩ := pre_read (E.take n) n s.size true (by omega)
      (fun h28 => by rw [take_drop_take _ _ _ _ (by omega), q2]) (fun h28 => by rw [take_drop_take _ _ _ _ (by omega), q1]; rfl) (by simp; omega)
    refine ⟨K, hK, parse0_bad A n cA _ S w hE hb (by omega) hnc hca n hmm K L _ hK (by rw [hbt]; exact hrd)⟩
theorem turn_any (s : ByteArray) (y mo d h mi se : Int) (me c p z pl : Nat) (wd lt : Bool) (hc : c < 4294967296) (hk : codeC s (rightB y mo d h mi se) me p z pl = 0) : ∃ E LE, (∀ w, Env w → Calls Tryd.prog 9 #[.agg #[.string s, .int .i64 y, .int .i64 mo, .int .i64 d, .int .i64 h, .int .i64 mi, .int .i64 se, .int .i64 (me : Nat), .int .u32 (c : Nat), .int .i64 (p : Nat), .int .i64 (z : Nat), .bool wd, .bool lt, .int .i64 (pl : Nat)]] w (EncP LE E w)) ∧ Good (.agg #[.string s, .int .i64 y, .int .i64 mo, .int .i64 d, .int .i64 h, .int .i64 mi, .int .i64 se, .int .i64 (me : Nat), .int .u32 (c : Nat), .int .i64 (p : Nat), .int .i64 (z : Nat), .bool wd, .bool lt, .int .i64 (pl : Nat)]) E LE := by
  obtain ⟨DT, CK, FL, o⟩ := ok_of s y mo d h mi se me c p z pl lt hc hk
  cases wd with
  | false => exact ⟨ES s me c p z pl DT CK FL, 46 + s.size, fun w hE => cencp_slim s y mo d h mi se me c p z pl DT CK FL lt w hE o.hs o.hc o.hk o.ht o.hD o.hC o.hF o.hD2 o.hC2 o.hF2 o.hp o.hz o.hme (by have := o.hpl; omega), good_slim s y mo d h mi se me c p z pl DT CK FL lt o⟩
  | true =>
    have e : 74 + s.size = s.size + 74 := by omega
    exact ⟨EW s me c p z pl DT CK FL, s.size + 74, fun w hE => e ▸ cencp_wide s y mo d h mi se me c p z pl DT CK FL lt w hE o.hs o.hc o.hk o.ht o.hD o.hC o.hF o.hD2 o.hC2 o.hF2 o.hp o.hz o.hme (by have := o.hpl; omega), good_wide s y mo d h mi se me c p z pl DT CK FL lt o⟩
end Go.Proofs.YtdmglpnieiiigaaDoor
