/- Read of any bytes, and of a written header. -/
import Derived.Test.YtdpiaabmgdhekaaDoorV3
import Derived.Test.YtdpiaabmgdhekaaDoorS5
namespace Go.Proofs.YtdpiaabmgdhekaaDoor
open Go.RowKit

theorem bad_mem : ∀ (l : List (Bool × Int)), bad l = 0 → (∀ x ∈ l, x.1 = false → x.2 ≠ 0) → ∀ x ∈ l, x.1 = true
  | [], _, _, x, hx => by cases hx
  | (b, c) :: l, h, hz, x, hx => by
    unfold bad at h
    cases b with
    | false =>
      rw [if_neg (by simp)] at h
      exact absurd h (hz (false, c) List.mem_cons_self rfl)
    | true =>
      rw [if_pos rfl] at h
      rcases List.mem_cons.mp hx with rfl | hx
      · rfl
      · exact bad_mem l h (fun x hx => hz x (List.mem_cons_of_mem _ hx)) x hx
theorem bad_of : ∀ (l : List (Bool × Int)), (∀ x ∈ l, x.1 = true) → bad l = 0
  | [], _ => rfl
  | (b, c) :: l, h => by
    have hb : b = true := h (b, c) List.mem_cons_self
    subst hb
    unfold bad
    rw [if_pos rfl]
    exact bad_of l fun x hx => h x (List.mem_cons_of_mem _ hx)
theorem dstep {bs x r : List UInt8} {o k o' : Nat} (h : bs.drop o = x ++ r) (hx : x.length = k) (e : o + k = o') : bs.drop o' = r := by subst e; rw [← List.drop_drop, h, List.drop_left' hx]
theorem nstep {bs r : List UInt8} {o v k : Nat} (h : bs.drop o = leB v k ++ r) (hv : v < 256 ^ k) : num ((bs.drop o).take k) = v := by rw [h, List.take_left' (leB_len ..), num_leB, Nat.mod_eq_of_lt hv]
set_option maxRecDepth 100000 in
set_option maxHeartbeats 4000000 in
theorem enc_read_slim (s : ByteArray) (y mo d h mi se : Int) (me c p z DT CK FL : Nat) (lt : Bool) (rest bs : List UInt8) (n : Nat) (hbs : bs = leB 67324752 4 ++ catK 2 [20, FL, me, CK, DT] ++ catK 4 [c, p, z] ++ leB s.size 2 ++ leB 0 2 ++ s.data.toList ++ rest) (hlen : bs.length = n) (hn : n ≤ 1000) (hs : s.size ≤ 255) (hc : c < 4294967296) (hk : codeH s (rightB y mo d h mi se) me p z = 0) (ht : rightB y mo d h mi se = true) (hD : dateI y mo d = (DT : Nat)) (hC : clockI h mi se = (CK : Nat)) (hF : flagsH s lt = (FL : Nat)) (hD2 : DT < 65536) (hC2 : CK < 65536) (hF2 : FL < 65536) (hp : p ≤ 33554432) (hz : z ≤ 16777216) (hme : me < 65536) (hz0 : lt = true → c = 0 ∧ p = 0 ∧ z = 0) (g : Nat) (A : Option Addr) (cap : Nat) (w : World) (hE : Env w) (hR : Rdr w g A n cap bs 0) (hnc : n ≤ cap) (hcc : cap ≤ 9223372036854775807) (hg3 : 3 ≤ g) :
    Calls Tryd.prog 21 #[.pointer (some ⟨g, 0, none⟩)] w (RdH w g A n cap (30 + s.size) 0 (.agg #[.string s, .int .i64 y, .int .i64 mo, .int .i64 d, .int .i64 h, .int .i64 mi, .int .i64 se, .int .i64 (me : Nat), .int .u32 (c : Nat), .int .i64 (p : Nat), .int .i64 (z : Nat), .bool false, .bool lt])) := by
  have p2 : 256 ^ 2 = 65536 := rfl
  have p4 : 256 ^ 4 = 4294967296 := rfl
  have p8 : 256 ^ 8 = 18446744073709551616 := rfl
  have q0 : bs.drop 0 = (leB 67324752 4 ++ (leB 20 2 ++ (leB FL 2 ++ (leB me 2 ++ (leB CK 2 ++ (leB DT 2 ++ (leB c 4 ++ (leB p 4 ++ (leB z 4 ++ (leB s.size 2 ++ (leB 0 2 ++ (s.data.toList ++ rest)))))))))))) := by rw [hbs]; simp [catK, List.append_assoc]
  have n0 : num ((bs.drop 0).take 4) = 67324752 := nstep q0 (by omega)
  have q4 := dstep (o' := 4) q0 (leB_len _ _) (by omega)
  have n4 : num ((bs.drop 4).take 2) = 20 := nstep q4 (by omega)
  have q6 := dstep (o' := 6) q4 (leB_len _ _) (by omega)
  have n6 : num ((bs.drop 6).take 2) = FL := nstep q6 (by omega)
  have q8 := dstep (o' := 8) q6 (leB_len _ _) (by omega)
  have n8 : num ((bs.drop 8).take 2) = me := nstep q8 (by omega)
  have q10 := dstep (o' := 10) q8 (leB_len _ _) (by omega)
  have n10 : num ((bs.drop 10).take 2) = CK := nstep q10 (by omega)
  have q12 := dstep (o' := 12) q10 (leB_len _ _) (by omega)
  have n12 : num ((bs.drop 12).take 2) = DT := nstep q12 (by omega)
  have q14 := dstep (o' := 14) q12 (leB_len _ _) (by omega)
  have n14 : num ((bs.drop 14).take 4) = c := nstep q14 (by omega)
  have q18 := dstep (o' := 18) q14 (leB_len _ _) (by omega)
  have n18 : num ((bs.drop 18).take 4) = p := nstep q18 (by omega)
  have q22 := dstep (o' := 22) q18 (leB_len _ _) (by omega)
  have n22 : num ((bs.drop 22).take 4) = z := nstep q22 (by omega)
  have q26 := dstep (o' := 26) q22 (leB_len _ _) (by omega)
  have n26 : num ((bs.drop 26).take 2) = s.size := nstep q26 (by omega)
  have q28 := dstep (o' := 28) q26 (leB_len _ _) (by omega)
  have n28 : num ((bs.drop 28).take 2) = 0 := nstep q28 (by omega)
  have q30 := dstep (o' := 30) q28 (leB_len _ _) (by omega)
  have hnm : (⟨((bs.drop 30).take s.size).toArray⟩ : ByteArray) = s := by rw [q30, List.take_left' (by rfl)]
  have hN : 30 + s.size ≤ n := by
    have hl := congrArg List.length q0
    have hsz : s.data.toList.length = s.size := rfl
    simp only [List.length_append, leB_len, List.length_drop, hsz, hlen] at hl
    omega
  have e0 : num (bs.take 4) = 67324752 := n0
  have hr := RightT.of ht
  obtain ⟨e1, e2, e3⟩ := back_date hr
  obtain ⟨e4, e5, e6⟩ := back_clock hr
  rw [hD] at e1 e2 e3
  rw [hC] at e4 e5 e6
  have htk : rightD DT CK = true := by unfold rightD; rw [e1, e2, e3, e4, e5, e6, ht]
  have htm : tmD DT CK = tm y mo d h mi se := by unfold tmD; rw [e1, e2, e3, e4, e5, e6]
  have hlt : (FL / 8 % 2 == 1) = lt := by
    unfold flagsH at hF
    cases lt
    · rw [beq_eq_false_iff_ne]
      split at hF <;> split at hF <;> first | contradiction | omega
    · rw [beq_iff_eq]
      split at hF <;> split at hF <;> first | contradiction | omega
  have hfk : ((FL : Int) == flagsH s lt) = true := by rw [hF]; simp
  have hnk : ((((c : Nat) == 0) && (((p : Nat) == 0) && ((z : Nat) == 0))) || !lt) = true := by
    cases lt
    · simp
    · obtain ⟨rfl, rfl, rfl⟩ := hz0 rfl; rfl
  have hK : bad (dlS bs n true true s.size true true 0) = 0 := by
    refine bad_of _ fun x hx => ?_
    simp only [dlS, List.mem_cons, List.not_mem_nil, or_false] at hx
    rcases hx with rfl | rfl | rfl | rfl | rfl | rfl | rfl | rfl | rfl | rfl | rfl | rfl | rfl | rfl | rfl | rfl | rfl | rfl | rfl <;> first | rfl | exact decide_eq_true (by omega) | exact beq_iff_eq.mpr (by assumption)
  exact hread_slim g A n cap bs 20 FL me CK DT c p z s.size s y mo d h mi se true true lt (!lt) true true 0 0 w hE hR hn hnc hcc n4 n6 n8 n10 n12 n14 n18 n22 n26 rfl rfl hlt htk htm hg3 hnm hfk rfl hnk hk hK
set_option maxRecDepth 100000 in
set_option maxHeartbeats 4000000 in
theorem enc_read_wide (s : ByteArray) (y mo d h mi se : Int) (me c p z DT CK FL : Nat) (lt : Bool) (rest bs : List UInt8) (n : Nat) (hbs : bs = leB 67324752 4 ++ catK 2 [45, FL, me, CK, DT] ++ catK 4 [c, 4294967295, 4294967295] ++ leB s.size 2 ++ leB 20 2 ++ s.data.toList ++ leB 1 2 ++ leB 16 2 ++ leB z 8 ++ leB p 8 ++ rest) (hlen : bs.length = n) (hn : n ≤ 1000) (hs : s.size ≤ 255) (hc : c < 4294967296) (hk : codeH s (rightB y mo d h mi se) me p z = 0) (ht : rightB y mo d h mi se = true) (hD : dateI y mo d = (DT : Nat)) (hC : clockI h mi se = (CK : Nat)) (hF : flagsH s lt = (FL : Nat)) (hD2 : DT < 65536) (hC2 : CK < 65536) (hF2 : FL < 65536) (hp : p ≤ 33554432) (hz : z ≤ 16777216) (hme : me < 65536) (hz0 : lt = true → c = 0 ∧ p = 0 ∧ z = 0) (g : Nat) (A : Option Addr) (cap : Nat) (w : World) (hE : Env w) (hR : Rdr w g A n cap bs 0) (hnc : n ≤ cap) (hcc : cap ≤ 9223372036854775807) (hg3 : 3 ≤ g) :
    Calls Tryd.prog 21 #[.pointer (some ⟨g, 0, none⟩)] w (RdH w g A n cap (s.size + 50) 0 (.agg #[.string s, .int .i64 y, .int .i64 mo, .int .i64 d, .int .i64 h, .int .i64 mi, .int .i64 se, .int .i64 (me : Nat), .int .u32 (c : Nat), .int .i64 (p : Nat), .int .i64 (z : Nat), .bool true, .bool lt])) := by
  have p2 : 256 ^ 2 = 65536 := rfl
  have p4 : 256 ^ 4 = 4294967296 := rfl
  have p8 : 256 ^ 8 = 18446744073709551616 := rfl
  have q0 : bs.drop 0 = (leB 67324752 4 ++ (leB 45 2 ++ (leB FL 2 ++ (leB me 2 ++ (leB CK 2 ++ (leB DT 2 ++ (leB c 4 ++ (leB 4294967295 4 ++ (leB 4294967295 4 ++ (leB s.size 2 ++ (leB 20 2 ++ (s.data.toList ++ (leB 1 2 ++ (leB 16 2 ++ (leB z 8 ++ (leB p 8 ++ rest)))))))))))))))) := by rw [hbs]; simp [catK, List.append_assoc]
  have n0 : num ((bs.drop 0).take 4) = 67324752 := nstep q0 (by omega)
  have q4 := dstep (o' := 4) q0 (leB_len _ _) (by omega)
  have n4 : num ((bs.drop 4).take 2) = 45 := nstep q4 (by omega)
  have q6 := dstep (o' := 6) q4 (leB_len _ _) (by omega)
  have n6 : num ((bs.drop 6).take 2) = FL := nstep q6 (by omega)
  have q8 := dstep (o' := 8) q6 (leB_len _ _) (by omega)
  have n8 : num ((bs.drop 8).take 2) = me := nstep q8 (by omega)
  have q10 := dstep (o' := 10) q8 (leB_len _ _) (by omega)
  have n10 : num ((bs.drop 10).take 2) = CK := nstep q10 (by omega)
  have q12 := dstep (o' := 12) q10 (leB_len _ _) (by omega)
  have n12 : num ((bs.drop 12).take 2) = DT := nstep q12 (by omega)
  have q14 := dstep (o' := 14) q12 (leB_len _ _) (by omega)
  have n14 : num ((bs.drop 14).take 4) = c := nstep q14 (by omega)
  have q18 := dstep (o' := 18) q14 (leB_len _ _) (by omega)
  have n18 : num ((bs.drop 18).take 4) = 4294967295 := nstep q18 (by omega)
  have q22 := dstep (o' := 22) q18 (leB_len _ _) (by omega)
  have n22 : num ((bs.drop 22).take 4) = 4294967295 := nstep q22 (by omega)
  have q26 := dstep (o' := 26) q22 (leB_len _ _) (by omega)
  have n26 : num ((bs.drop 26).take 2) = s.size := nstep q26 (by omega)
  have q28 := dstep (o' := 28) q26 (leB_len _ _) (by omega)
  have n28 : num ((bs.drop 28).take 2) = 20 := nstep q28 (by omega)
  have q30 := dstep (o' := 30) q28 (leB_len _ _) (by omega)
  have hnm : (⟨((bs.drop 30).take s.size).toArray⟩ : ByteArray) = s := by rw [q30, List.take_left' (by rfl)]
  have u30 := dstep (o' := s.size + 30) q30 (k := s.size) rfl (by omega)
  have m30 : num ((bs.drop (s.size + 30)).take 2) = 1 := nstep u30 (by omega)
  have u32 := dstep (o' := s.size + 32) u30 (leB_len _ _) (by omega)
  have m32 : num ((bs.drop (s.size + 32)).take 2) = 16 := nstep u32 (by omega)
  have u34 := dstep (o' := s.size + 34) u32 (leB_len _ _) (by omega)
  have m34 : num ((bs.drop (s.size + 34)).take 8) = z := nstep u34 (by omega)
  have u42 := dstep (o' := s.size + 42) u34 (leB_len _ _) (by omega)
  have m42 : num ((bs.drop (s.size + 42)).take 8) = p := nstep u42 (by omega)
  have u50 := dstep (o' := s.size + 50) u42 (leB_len _ _) (by omega)
  have hN : s.size + 50 ≤ n := by
    have hl := congrArg List.length q0
    have hsz : s.data.toList.length = s.size := rfl
    simp only [List.length_append, leB_len, List.length_drop, hsz, hlen] at hl
    omega
  have e0 : num (bs.take 4) = 67324752 := n0
  have hr := RightT.of ht
  obtain ⟨e1, e2, e3⟩ := back_date hr
  obtain ⟨e4, e5, e6⟩ := back_clock hr
  rw [hD] at e1 e2 e3
  rw [hC] at e4 e5 e6
  have htk : rightD DT CK = true := by unfold rightD; rw [e1, e2, e3, e4, e5, e6, ht]
  have htm : tmD DT CK = tm y mo d h mi se := by unfold tmD; rw [e1, e2, e3, e4, e5, e6]
  have hlt : (FL / 8 % 2 == 1) = lt := by
    unfold flagsH at hF
    cases lt
    · rw [beq_eq_false_iff_ne]
      split at hF <;> split at hF <;> first | contradiction | omega
    · rw [beq_iff_eq]
      split at hF <;> split at hF <;> first | contradiction | omega
  have hfk : ((FL : Int) == flagsH s lt) = true := by rw [hF]; simp
  have hip : IntKind.i64.wrap (p : Int) = (p : Int) := IntWalk.i64_in _ (by omega)
  have hiz : IntKind.i64.wrap (z : Int) = (z : Int) := IntWalk.i64_in _ (by omega)
  have hnk : ((((c : Nat) == 0) && (((p : Int) == 0) && ((z : Int) == 0))) || !lt) = true := by
    cases lt
    · simp
    · obtain ⟨rfl, rfl, rfl⟩ := hz0 rfl; rfl
  have hK : bad (dlW bs n true true s.size true true 0) = 0 := by
    refine bad_of _ fun x hx => ?_
    simp only [dlW, List.mem_cons, List.not_mem_nil, or_false] at hx
    rcases hx with rfl | rfl | rfl | rfl | rfl | rfl | rfl | rfl | rfl | rfl | rfl | rfl | rfl | rfl | rfl | rfl | rfl | rfl | rfl | rfl | rfl | rfl | rfl | rfl | rfl <;> first | rfl | exact decide_eq_true (by omega) | exact beq_iff_eq.mpr (by assumption)
  exact hread_wide g A n cap bs 45 FL me CK DT c 4294967295 4294967295 s.size s y mo d h mi se true lt (!lt) true true true p z p z 0 0 w hE hR hn hnc hcc n4 n6 n8 n10 n12 n14 n18 n22 n26 rfl m34 m42 hip hiz rfl hlt htk htm hg3 hnm hfk rfl hnk hk hK
end Go.Proofs.YtdpiaabmgdhekaaDoor
