/- Read of a written entry, and of too few octets. -/
import Derived.Test.YtdmglpnieiiigaaDoorV3w
namespace Go.Proofs.YtdmglpnieiiigaaDoor
open Go.RowKit

theorem bad_mem : ∀ (l : List (Bool × Int)), bad l = 0 → (∀ x ∈ l, x.1 = false → x.2 ≠ 0) → ∀ x ∈ l, x.1 = true
  | [], _, _, x, hx => by cases hx
  | (b, c) :: l, h, hz, x, hx => by
    unfold bad at h
    cases b with
    | false =>
      rw [if_neg (by simp)] at h
      exact absurd h (hz (false, c) List.mem_cons_self rfl)
    | true =>
      rw [if_pos rfl] at h
      rcases List.mem_cons.mp hx with rfl | hx
      · rfl
      · exact bad_mem l h (fun x hx => hz x (List.mem_cons_of_mem _ hx)) x hx
theorem bad_of : ∀ (l : List (Bool × Int)), (∀ x ∈ l, x.1 = true) → bad l = 0
  | [], _ => rfl
  | (b, c) :: l, h => by
    have hb : b = true := h (b, c) List.mem_cons_self
    subst hb
    unfold bad
    rw [if_pos rfl]
    exact bad_of l fun x hx => h x (List.mem_cons_of_mem _ hx)
theorem dstep {bs x r : List UInt8} {o k o' : Nat} (h : bs.drop o = x ++ r) (hx : x.length = k) (e : o + k = o') : bs.drop o' = r := by subst e; rw [← List.drop_drop, h, List.drop_left' hx]
theorem nstep {bs r : List UInt8} {o v k : Nat} (h : bs.drop o = leB v k ++ r) (hv : v < 256 ^ k) : num ((bs.drop o).take k) = v := by rw [h, List.take_left' (leB_len ..), num_leB, Nat.mod_eq_of_lt hv]
theorem flags_bit {s : ByteArray} {lt : Bool} {FL : Nat} (hF : flagsH s lt = (FL : Nat)) : (FL / 8 % 2 == 1) = lt := by
  unfold flagsH at hF
  cases lt
  · rw [beq_eq_false_iff_ne]
    split at hF <;> split at hF <;> first | contradiction | omega
  · rw [beq_iff_eq]
    split at hF <;> split at hF <;> first | contradiction | omega
theorem time_back {y mo d h mi se : Int} {DT CK : Nat} (ht : rightB y mo d h mi se = true) (hD : dateI y mo d = (DT : Nat)) (hC : clockI h mi se = (CK : Nat)) : rightD DT CK = true ∧ tmD DT CK = tm y mo d h mi se := by
  have hr := RightT.of ht
  obtain ⟨e1, e2, e3⟩ := back_date hr
  obtain ⟨e4, e5, e6⟩ := back_clock hr
  rw [hD] at e1 e2 e3
  rw [hC] at e4 e5 e6
  exact ⟨by unfold rightD; rw [e1, e2, e3, e4, e5, e6, ht], by unfold tmD; rw [e1, e2, e3, e4, e5, e6]⟩
structure Ok (s : ByteArray) (y mo d h mi se : Int) (me c p z pl DT CK FL : Nat) (lt : Bool) : Prop where
  hs : s.size ≤ 255
  h0 : s.size ≠ 0
  hc : c < 4294967296
  hk : codeC s (rightB y mo d h mi se) me p z pl = 0
  ht : rightB y mo d h mi se = true
  hD : dateI y mo d = (DT : Nat)
  hC : clockI h mi se = (CK : Nat)
  hF : flagsH s lt = (FL : Nat)
  hD2 : DT < 65536
  hC2 : CK < 65536
  hF2 : FL < 65536
  hp : p ≤ 33554432
  hz : z ≤ 16777216
  hme : me < 65536
  hpl : pl < 4294967295
theorem ok_of (s : ByteArray) (y mo d h mi se : Int) (me c p z pl : Nat) (lt : Bool) (hc : c < 4294967296) (hk : codeC s (rightB y mo d h mi se) me p z pl = 0) : ∃ DT CK FL, Ok s y mo d h mi se me c p z pl DT CK FL lt := by
  obtain ⟨hk0, hl0, hl1⟩ := codeC_zero hk
  obtain ⟨h1, h2, h3, h4, h5, h6, h7⟩ := codeH_zero hk0
  have hs := nameOk_size h1
  obtain ⟨DT, hD⟩ : ∃ DT : Nat, dateI y mo d = DT := ⟨(dateI y mo d).toNat, by have := dateI_bd (RightT.of h2); omega⟩
  obtain ⟨CK, hC⟩ : ∃ CK : Nat, clockI h mi se = CK := ⟨(clockI h mi se).toNat, by have := clockI_bd (RightT.of h2); omega⟩
  obtain ⟨FL, hF⟩ : ∃ FL : Nat, flagsH s lt = FL := ⟨(flagsH s lt).toNat, by have := flagsH_bd s lt; omega⟩
  have hD2 : DT < 65536 := by have := dateI_bd (RightT.of h2); omega
  have hC2 : CK < 65536 := by have := clockI_bd (RightT.of h2); omega
  have hF2 : FL < 65536 := by have := flagsH_bd s lt; omega
  have h0 : s.size ≠ 0 := fun h => by rw [nameOk_empty h] at h1; cases h1
  have hl2 : pl < 4294967295 := by
    have h9 := hk
    unfold codeC at h9
    rw [if_pos hk0] at h9
    split at h9
    · cases h9
    · omega
  exact ⟨DT, CK, FL, hs, h0, hc, hk, h2, hD, hC, hF, hD2, hC2, hF2, by omega, by omega, by omega, hl2⟩
def ES (s : ByteArray) (me c p z pl DT CK FL : Nat) : List UInt8 := leB 33639248 4 ++ catK 2 [788, 20, FL, me, CK, DT] ++ catK 4 [c, p, z] ++ catK 2 [s.size, 0, 0, 0, 0] ++ leB 2175008768 4 ++ leB pl 4 ++ s.data.toList
def EW (s : ByteArray) (me c p z pl DT CK FL : Nat) : List UInt8 := leB 33639248 4 ++ catK 2 [788, 45, FL, me, CK, DT] ++ catK 4 [c, 4294967295, 4294967295] ++ catK 2 [s.size, 28, 0, 0, 0] ++ leB 2175008768 4 ++ leB 4294967295 4 ++ s.data.toList ++ leB 1 2 ++ leB 24 2 ++ catK 8 [z, p, pl]
theorem ES_len (s : ByteArray) (me c p z pl DT CK FL : Nat) : (ES s me c p z pl DT CK FL).length = 46 + s.size := by
  have hsz : s.data.toList.length = s.size := rfl
  have cl : ∀ (k : Nat) (l : List Nat), (catK k l).length = k * l.length := fun k l => fl_len k l
  simp only [ES, List.length_append, leB_len, cl, hsz, List.length_cons, List.length_nil]
theorem EW_len (s : ByteArray) (me c p z pl DT CK FL : Nat) : (EW s me c p z pl DT CK FL).length = s.size + 74 := by
  have hsz : s.data.toList.length = s.size := rfl
  have cl : ∀ (k : Nat) (l : List Nat), (catK k l).length = k * l.length := fun k l => fl_len k l
  simp only [EW, List.length_append, leB_len, cl, hsz, List.length_cons, List.length_nil]
  omega
def Reads (bs : List UInt8) (n : Nat) (K : Int) (cs : Array Value) (L : Nat) : Prop :=
  ∀ (g : Nat) (A : Option Addr) (cap : Nat) (w : World), Env w → Rdr w g A n cap bs 0 → n ≤ cap → cap ≤ 9223372036854775807 → 3 ≤ g → Calls Tryd.prog 17 #[.pointer (some ⟨g, 0, none⟩)] w (RdH w g A n cap L K (.agg cs))
set_option maxHeartbeats 2000000 in
theorem reads_slim (s : ByteArray) (y mo d h mi se : Int) (me c p z pl DT CK FL : Nat) (lt : Bool) (o : Ok s y mo d h mi se me c p z pl DT CK FL lt) (rest bs : List UInt8) (n : Nat) (hbs : bs = ES s me c p z pl DT CK FL ++ rest) (hlen : bs.length = n) (hn : n ≤ 1000) : Reads bs n 0 #[.string s, .int .i64 y, .int .i64 mo, .int .i64 d, .int .i64 h, .int .i64 mi, .int .i64 se, .int .i64 (me : Nat), .int .u32 (c : Nat), .int .i64 (p : Nat), .int .i64 (z : Nat), .bool false, .bool lt, .int .i64 (pl : Nat)] (46 + s.size) := by
  intro g A cap w hE hR hnc hcc hg3
  have p2 : 256 ^ 2 = 65536 := rfl
  have p4 : 256 ^ 4 = 4294967296 := rfl
  have p8 : 256 ^ 8 = 18446744073709551616 := rfl
  obtain ⟨hs, h0, hc, hk, ht, hD, hC, hF, hD2, hC2, hF2, hp, hz, hme, hpl⟩ := o
  have q0 : bs.drop 0 = leB 33639248 4 ++ (leB 788 2 ++ (leB 20 2 ++ (leB FL 2 ++ (leB me 2 ++ (leB CK 2 ++ (leB DT 2 ++ (leB c 4 ++ (leB p 4 ++ (leB z 4 ++ (leB s.size 2 ++ (leB 0 2 ++ (leB 0 2 ++ (leB 0 2 ++ (leB 0 2 ++ (leB 2175008768 4 ++ (leB pl 4 ++ (s.data.toList ++ rest))))))))))))))))) := by rw [hbs]; simp [ES, catK, List.append_assoc]
  have n0 : num ((bs.drop 0).take 4) = 33639248 := nstep q0 (by omega)
  have q4 := dstep (o' := 4) q0 (leB_len _ _) (by omega)
  have n4 : num ((bs.drop 4).take 2) = 788 := nstep q4 (by omega)
  have q6 := dstep (o' := 6) q4 (leB_len _ _) (by omega)
  have n6 : num ((bs.drop 6).take 2) = 20 := nstep q6 (by omega)
  have q8 := dstep (o' := 8) q6 (leB_len _ _) (by omega)
  have n8 : num ((bs.drop 8).take 2) = FL := nstep q8 (by omega)
  have q10 := dstep (o' := 10) q8 (leB_len _ _) (by omega)
  have n10 : num ((bs.drop 10).take 2) = me := nstep q10 (by omega)
  have q12 := dstep (o' := 12) q10 (leB_len _ _) (by omega)
  have n12 : num ((bs.drop 12).take 2) = CK := nstep q12 (by omega)
  have q14 := dstep (o' := 14) q12 (leB_len _ _) (by omega)
  have n14 : num ((bs.drop 14).take 2) = DT := nstep q14 (by omega)
  have q16 := dstep (o' := 16) q14 (leB_len _ _) (by omega)
  have n16 : num ((bs.drop 16).take 4) = c := nstep q16 (by omega)
  have q20 := dstep (o' := 20) q16 (leB_len _ _) (by omega)
  have n20 : num ((bs.drop 20).take 4) = p := nstep q20 (by omega)
  have q24 := dstep (o' := 24) q20 (leB_len _ _) (by omega)
  have n24 : num ((bs.drop 24).take 4) = z := nstep q24 (by omega)
  have q28 := dstep (o' := 28) q24 (leB_len _ _) (by omega)
  have n28 : num ((bs.drop 28).take 2) = s.size := nstep q28 (by omega)
  have q30 := dstep (o' := 30) q28 (leB_len _ _) (by omega)
  have n30 : num ((bs.drop 30).take 2) = 0 := nstep q30 (by omega)
  have q32 := dstep (o' := 32) q30 (leB_len _ _) (by omega)
  have n32 : num ((bs.drop 32).take 2) = 0 := nstep q32 (by omega)
  have q34 := dstep (o' := 34) q32 (leB_len _ _) (by omega)
  have n34 : num ((bs.drop 34).take 2) = 0 := nstep q34 (by omega)
  have q36 := dstep (o' := 36) q34 (leB_len _ _) (by omega)
  have n36 : num ((bs.drop 36).take 2) = 0 := nstep q36 (by omega)
  have q38 := dstep (o' := 38) q36 (leB_len _ _) (by omega)
  have n38 : num ((bs.drop 38).take 4) = 2175008768 := nstep q38 (by omega)
  have q42 := dstep (o' := 42) q38 (leB_len _ _) (by omega)
  have n42 : num ((bs.drop 42).take 4) = pl := nstep q42 (by omega)
  have q46 := dstep (o' := 46) q42 (leB_len _ _) (by omega)
  have hnm : (⟨((bs.drop 46).take s.size).toArray⟩ : ByteArray) = s := by rw [q46, List.take_left' (by rfl)]
  have hN : 46 + s.size ≤ n := by rw [← hlen, hbs, List.length_append, ES_len]; omega
  obtain ⟨t1, t2⟩ := time_back ht hD hC
  have e0 : num (bs.take 4) = 33639248 := n0
  have hfk : ((FL : Int) == flagsH s lt) = true := by rw [hF]; simp
  have hK : bad (clS bs n true true s.size true 0) = 0 := by
    refine bad_of _ fun x hx => ?_
    simp only [clS, clB, zl, List.cons_append, List.nil_append, List.mem_cons, List.not_mem_nil, or_false, Nat.reduceAdd] at hx
    rcases hx with rfl | rfl | rfl | rfl | rfl | rfl | rfl | rfl | rfl | rfl | rfl | rfl | rfl | rfl | rfl | rfl | rfl | rfl | rfl | rfl | rfl | rfl | rfl | rfl | rfl | rfl | rfl | rfl | rfl <;> first | rfl | exact decide_eq_true (by omega) | exact beq_iff_eq.mpr (by assumption)
  exact cread_slim g A n cap bs 20 FL me CK DT c p z s.size pl s y mo d h mi se true true lt true 0 0 w hE hR hn hnc hcc n6 n8 n10 n12 n14 n16 n20 n24 n28 n42 rfl rfl (flags_bit hF) t1 t2 hg3 hnm hfk hk hK
set_option maxHeartbeats 2000000 in
theorem reads_wide (s : ByteArray) (y mo d h mi se : Int) (me c p z pl DT CK FL : Nat) (lt : Bool) (o : Ok s y mo d h mi se me c p z pl DT CK FL lt) (rest bs : List UInt8) (n : Nat) (hbs : bs = EW s me c p z pl DT CK FL ++ rest) (hlen : bs.length = n) (hn : n ≤ 1000) : Reads bs n 0 #[.string s, .int .i64 y, .int .i64 mo, .int .i64 d, .int .i64 h, .int .i64 mi, .int .i64 se, .int .i64 (me : Nat), .int .u32 (c : Nat), .int .i64 (p : Nat), .int .i64 (z : Nat), .bool true, .bool lt, .int .i64 (pl : Nat)] (s.size + 74) := by
  intro g A cap w hE hR hnc hcc hg3
  have p2 : 256 ^ 2 = 65536 := rfl
  have p4 : 256 ^ 4 = 4294967296 := rfl
  have p8 : 256 ^ 8 = 18446744073709551616 := rfl
  obtain ⟨hs, h0, hc, hk, ht, hD, hC, hF, hD2, hC2, hF2, hp, hz, hme, hpl⟩ := o
  have q0 : bs.drop 0 = leB 33639248 4 ++ (leB 788 2 ++ (leB 45 2 ++ (leB FL 2 ++ (leB me 2 ++ (leB CK 2 ++ (leB DT 2 ++ (leB c 4 ++ (leB 4294967295 4 ++ (leB 4294967295 4 ++ (leB s.size 2 ++ (leB 28 2 ++ (leB 0 2 ++ (leB 0 2 ++ (leB 0 2 ++ (leB 2175008768 4 ++ (leB 4294967295 4 ++ (s.data.toList ++ (leB 1 2 ++ (leB 24 2 ++ (leB z 8 ++ (leB p 8 ++ (leB pl 8 ++ (rest))))))))))))))))))))))) := by rw [hbs]; simp [EW, catK, List.append_assoc]
  have n0 : num ((bs.drop 0).take 4) = 33639248 := nstep q0 (by omega)
  have q4 := dstep (o' := 4) q0 (leB_len _ _) (by omega)
  have n4 : num ((bs.drop 4).take 2) = 788 := nstep q4 (by omega)
  have q6 := dstep (o' := 6) q4 (leB_len _ _) (by omega)
  have n6 : num ((bs.drop 6).take 2) = 45 := nstep q6 (by omega)
  have q8 := dstep (o' := 8) q6 (leB_len _ _) (by omega)
  have n8 : num ((bs.drop 8).take 2) = FL := nstep q8 (by omega)
  have q10 := dstep (o' := 10) q8 (leB_len _ _) (by omega)
  have n10 : num ((bs.drop 10).take 2) = me := nstep q10 (by omega)
  have q12 := dstep (o' := 12) q10 (leB_len _ _) (by omega)
  have n12 : num ((bs.drop 12).take 2) = CK := nstep q12 (by omega)
  have q14 := dstep (o' := 14) q12 (leB_len _ _) (by omega)
  have n14 : num ((bs.drop 14).take 2) = DT := nstep q14 (by omega)
  have q16 := dstep (o' := 16) q14 (leB_len _ _) (by omega)
  have n16 : num ((bs.drop 16).take 4) = c := nstep q16 (by omega)
  have q20 := dstep (o' := 20) q16 (leB_len _ _) (by omega)
  have n20 : num ((bs.drop 20).take 4) = 4294967295 := nstep q20 (by omega)
  have q24 := dstep (o' := 24) q20 (leB_len _ _) (by omega)
  have n24 : num ((bs.drop 24).take 4) = 4294967295 := nstep q24 (by omega)
  have q28 := dstep (o' := 28) q24 (leB_len _ _) (by omega)
  have n28 : num ((bs.drop 28).take 2) = s.size := nstep q28 (by omega)
  have q30 := dstep (o' := 30) q28 (leB_len _ _) (by omega)
  have n30 : num ((bs.drop 30).take 2) = 28 := nstep q30 (by omega)
  have q32 := dstep (o' := 32) q30 (leB_len _ _) (by omega)
  have n32 : num ((bs.drop 32).take 2) = 0 := nstep q32 (by omega)
  have q34 := dstep (o' := 34) q32 (leB_len _ _) (by omega)
  have n34 : num ((bs.drop 34).take 2) = 0 := nstep q34 (by omega)
  have q36 := dstep (o' := 36) q34 (leB_len _ _) (by omega)
  have n36 : num ((bs.drop 36).take 2) = 0 := nstep q36 (by omega)
  have q38 := dstep (o' := 38) q36 (leB_len _ _) (by omega)
  have n38 : num ((bs.drop 38).take 4) = 2175008768 := nstep q38 (by omega)
  have q42 := dstep (o' := 42) q38 (leB_len _ _) (by omega)
  have n42 : num ((bs.drop 42).take 4) = 4294967295 := nstep q42 (by omega)
  have q46 := dstep (o' := 46) q42 (leB_len _ _) (by omega)
  have hnm : (⟨((bs.drop 46).take s.size).toArray⟩ : ByteArray) = s := by rw [q46, List.take_left' (by rfl)]
  have r46 := dstep (o' := s.size + 46) q46 (show s.data.toList.length = s.size from rfl) (by omega)
  have m46 : num ((bs.drop (s.size + 46)).take 2) = 1 := nstep r46 (by omega)
  have r48 := dstep (o' := s.size + 48) r46 (leB_len _ _) (by omega)
  have m48 : num ((bs.drop (s.size + 48)).take 2) = 24 := nstep r48 (by omega)
  have r50 := dstep (o' := s.size + 50) r48 (leB_len _ _) (by omega)
  have m50 : num ((bs.drop (s.size + 50)).take 8) = z := nstep r50 (by omega)
  have r58 := dstep (o' := s.size + 58) r50 (leB_len _ _) (by omega)
  have m58 : num ((bs.drop (s.size + 58)).take 8) = p := nstep r58 (by omega)
  have r66 := dstep (o' := s.size + 66) r58 (leB_len _ _) (by omega)
  have m66 : num ((bs.drop (s.size + 66)).take 8) = pl := nstep r66 (by omega)
  have r74 := dstep (o' := s.size + 74) r66 (leB_len _ _) (by omega)
  have hN : s.size + 74 ≤ n := by rw [← hlen, hbs, List.length_append, EW_len]; omega
  obtain ⟨t1, t2⟩ := time_back ht hD hC
  have e0 : num (bs.take 4) = 33639248 := n0
  have hfk : ((FL : Int) == flagsH s lt) = true := by rw [hF]; simp
  have hip : IntKind.i64.wrap (p : Int) = (p : Int) := IntWalk.i64_in _ (by omega)
  have hiz : IntKind.i64.wrap (z : Int) = (z : Int) := IntWalk.i64_in _ (by omega)
  have hil : IntKind.i64.wrap (pl : Int) = (pl : Int) := IntWalk.i64_in _ (by omega)
  have hK : bad (clW bs n true s.size true true 0) = 0 := by
    refine bad_of _ fun x hx => ?_
    simp only [clW, clC, clR, clD, zl, List.cons_append, List.nil_append, List.mem_cons, List.not_mem_nil, or_false, Nat.reduceAdd] at hx
    rcases hx with rfl | rfl | rfl | rfl | rfl | rfl | rfl | rfl | rfl | rfl | rfl | rfl | rfl | rfl | rfl | rfl | rfl | rfl | rfl | rfl | rfl | rfl | rfl | rfl | rfl | rfl | rfl | rfl | rfl | rfl | rfl | rfl | rfl | rfl | rfl | rfl <;> first | rfl | exact decide_eq_true (by omega) | exact beq_iff_eq.mpr (by assumption)
  exact cread_wide g A n cap bs 45 FL me CK DT c 4294967295 4294967295 s.size 4294967295 s y mo d h mi se true lt true 0 0 true p z pl p z pl w hE hR hn hnc hcc n6 n8 n10 n12 n14 n16 n20 n24 n28 n42 rfl m50 m58 m66 hip hiz hil rfl (flags_bit hF) t1 t2 hg3 hnm hfk hk hK
def Bad (bs : List UInt8) (n : Nat) : Prop :=
  ∃ (K : Int) (L : Nat) (s : ByteArray) (y mo d h mi se me c p z : Int) (wd lt : Bool) (pl : Int), K ≠ 0 ∧ Reads bs n K #[.string s, .int .i64 y, .int .i64 mo, .int .i64 d, .int .i64 h, .int .i64 mi, .int .i64 se, .int .i64 me, .int .u32 c, .int .i64 p, .int .i64 z, .bool wd, .bool lt, .int .i64 pl] L
theorem pre_read (bs : List UInt8) (n ln : Nat) (wd : Bool) (hn : n ≤ 1000) (hl : 30 ≤ n → num ((bs.drop 28).take 2) = ln) (hv : 30 ≤ n → (num ((bs.drop 6).take 2) == 45) = wd) (hlt : n < if wd = true then ln + 74 else 46 + ln) : Bad bs n := by
  cases hx : (num ((bs.drop 6).take 2) == 45) with
  | false =>
    refine ⟨_, _, _, _, _, _, _, _, _, _, _, _, _, _, _, _, ?_, fun g A cap w hE hR hnc hcc hg3 => cread_slim g A n cap bs _ _ _ _ _ _ _ _ _ _ _ _ _ _ _ _ _ _ _ _ _ _ _ w hE hR hn hnc hcc rfl rfl rfl rfl rfl rfl rfl rfl rfl rfl hx rfl rfl rfl rfl hg3 rfl rfl rfl rfl⟩
    intro hK
    have hm := bad_mem _ hK (by
      intro x hx
      simp only [clS, clB, zl, List.cons_append, List.nil_append, List.mem_cons, List.not_mem_nil, or_false] at hx
      rcases hx with rfl | rfl | rfl | rfl | rfl | rfl | rfl | rfl | rfl | rfl | rfl | rfl | rfl | rfl | rfl | rfl | rfl | rfl | rfl | rfl | rfl | rfl | rfl | rfl | rfl | rfl | rfl | rfl | rfl
      all_goals simp)
    have a1 := hm (decide (30 ≤ n), 4) (by simp [clS])
    have a2 := hm (decide (46 + num ((bs.drop 28).take 2) ≤ n), 4) (by simp [clS, clB])
    simp only [decide_eq_true_eq] at a1 a2
    have b1 := hl a1
    have b2 := hv a1
    rw [hx] at b2
    subst b2
    simp at hlt
    omega
  | true =>
    refine ⟨_, _, _, _, _, _, _, _, _, _, _, _, _, _, _, _, ?_, fun g A cap w hE hR hnc hcc hg3 => cread_wide g A n cap bs _ _ _ _ _ _ _ _ _ _ _ _ _ _ _ _ _ _ _ _ _ _ _ _ _ _ _ _ _ w hE hR hn hnc hcc rfl rfl rfl rfl rfl rfl rfl rfl rfl rfl hx rfl rfl rfl rfl rfl rfl rfl rfl rfl rfl hg3 rfl rfl rfl rfl⟩
    intro hK
    have hm := bad_mem _ hK (by
      intro x hx
      simp only [clW, clC, clR, clD, zl, List.cons_append, List.nil_append, List.mem_cons, List.not_mem_nil, or_false] at hx
      rcases hx with rfl | rfl | rfl | rfl | rfl | rfl | rfl | rfl | rfl | rfl | rfl | rfl | rfl | rfl | rfl | rfl | rfl | rfl | rfl | rfl | rfl | rfl | rfl | rfl | rfl | rfl | rfl | rfl | rfl | rfl | rfl | rfl | rfl | rfl | rfl | rfl
      all_goals simp)
    have a1 := hm (decide (30 ≤ n), 4) (by simp [clW])
    have a2 := hm (decide (num ((bs.drop 28).take 2) + 74 ≤ n), 4) (by simp [clW, clC, clR])
    simp only [decide_eq_true_eq] at a1 a2
    have b1 := hl a1
    have b2 := hv a1
    rw [hx] at b2
    subst b2
    simp at hlt
    omega
end Go.Proofs.YtdmglpnieiiigaaDoor
