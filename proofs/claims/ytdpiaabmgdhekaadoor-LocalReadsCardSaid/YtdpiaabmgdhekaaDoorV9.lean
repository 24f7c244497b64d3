/- Parse at 0, and headers that are written and read. -/
import Derived.Test.YtdpiaabmgdhekaaDoorV8
import Derived.Test.YtdpiaabmgdhekaaDoorV7
import Derived.Test.YtdpiaabmgdhekaaDoorV6
import Derived.Test.YtdpiaabmgdhekaaDoorS4
namespace Go.Proofs.YtdpiaabmgdhekaaDoor
open Go.RowKit

theorem enc_num_slim (s : ByteArray) (me c p z DT CK FL : Nat) (rest bs : List UInt8) (hbs : bs = leB 67324752 4 ++ catK 2 [20, FL, me, CK, DT] ++ catK 4 [c, p, z] ++ leB s.size 2 ++ leB 0 2 ++ s.data.toList ++ rest) (hs : s.size ≤ 255) (hc : c < 4294967296) (hD2 : DT < 65536) (hC2 : CK < 65536) (hF2 : FL < 65536) (hp : p ≤ 33554432) (hz : z ≤ 16777216) (hme : me < 65536) : num ((bs.drop 4).take 2) = 20 ∧ num ((bs.drop 26).take 2) = s.size := by
  have p2 : 256 ^ 2 = 65536 := rfl
  have p4 : 256 ^ 4 = 4294967296 := rfl
  have p8 : 256 ^ 8 = 18446744073709551616 := rfl
  have q0 : bs.drop 0 = (leB 67324752 4 ++ (leB 20 2 ++ (leB FL 2 ++ (leB me 2 ++ (leB CK 2 ++ (leB DT 2 ++ (leB c 4 ++ (leB p 4 ++ (leB z 4 ++ (leB s.size 2 ++ (leB 0 2 ++ (s.data.toList ++ rest)))))))))))) := by rw [hbs]; simp [catK, List.append_assoc]
  have n0 : num ((bs.drop 0).take 4) = 67324752 := nstep q0 (by omega)
  have q4 := dstep (o' := 4) q0 (leB_len _ _) (by omega)
  have n4 : num ((bs.drop 4).take 2) = 20 := nstep q4 (by omega)
  have q6 := dstep (o' := 6) q4 (leB_len _ _) (by omega)
  have n6 : num ((bs.drop 6).take 2) = FL := nstep q6 (by omega)
  have q8 := dstep (o' := 8) q6 (leB_len _ _) (by omega)
  have n8 : num ((bs.drop 8).take 2) = me := nstep q8 (by omega)
  have q10 := dstep (o' := 10) q8 (leB_len _ _) (by omega)
  have n10 : num ((bs.drop 10).take 2) = CK := nstep q10 (by omega)
  have q12 := dstep (o' := 12) q10 (leB_len _ _) (by omega)
  have n12 : num ((bs.drop 12).take 2) = DT := nstep q12 (by omega)
  have q14 := dstep (o' := 14) q12 (leB_len _ _) (by omega)
  have n14 : num ((bs.drop 14).take 4) = c := nstep q14 (by omega)
  have q18 := dstep (o' := 18) q14 (leB_len _ _) (by omega)
  have n18 : num ((bs.drop 18).take 4) = p := nstep q18 (by omega)
  have q22 := dstep (o' := 22) q18 (leB_len _ _) (by omega)
  have n22 : num ((bs.drop 22).take 4) = z := nstep q22 (by omega)
  have q26 := dstep (o' := 26) q22 (leB_len _ _) (by omega)
  have n26 : num ((bs.drop 26).take 2) = s.size := nstep q26 (by omega)
  have q28 := dstep (o' := 28) q26 (leB_len _ _) (by omega)
  have n28 : num ((bs.drop 28).take 2) = 0 := nstep q28 (by omega)
  have q30 := dstep (o' := 30) q28 (leB_len _ _) (by omega)
  exact ⟨n4, n26⟩
theorem enc_num_wide (s : ByteArray) (me c p z DT CK FL : Nat) (rest bs : List UInt8) (hbs : bs = leB 67324752 4 ++ catK 2 [45, FL, me, CK, DT] ++ catK 4 [c, 4294967295, 4294967295] ++ leB s.size 2 ++ leB 20 2 ++ s.data.toList ++ leB 1 2 ++ leB 16 2 ++ leB z 8 ++ leB p 8 ++ rest) (hs : s.size ≤ 255) (hc : c < 4294967296) (hD2 : DT < 65536) (hC2 : CK < 65536) (hF2 : FL < 65536) (hp : p ≤ 33554432) (hz : z ≤ 16777216) (hme : me < 65536) : num ((bs.drop 4).take 2) = 45 ∧ num ((bs.drop 26).take 2) = s.size := by
  have p2 : 256 ^ 2 = 65536 := rfl
  have p4 : 256 ^ 4 = 4294967296 := rfl
  have p8 : 256 ^ 8 = 18446744073709551616 := rfl
  have q0 : bs.drop 0 = (leB 67324752 4 ++ (leB 45 2 ++ (leB FL 2 ++ (leB me 2 ++ (leB CK 2 ++ (leB DT 2 ++ (leB c 4 ++ (leB 4294967295 4 ++ (leB 4294967295 4 ++ (leB s.size 2 ++ (leB 20 2 ++ (s.data.toList ++ (leB 1 2 ++ (leB 16 2 ++ (leB z 8 ++ (leB p 8 ++ rest)))))))))))))))) := by rw [hbs]; simp [catK, List.append_assoc]
  have n0 : num ((bs.drop 0).take 4) = 67324752 := nstep q0 (by omega)
  have q4 := dstep (o' := 4) q0 (leB_len _ _) (by omega)
  have n4 : num ((bs.drop 4).take 2) = 45 := nstep q4 (by omega)
  have q6 := dstep (o' := 6) q4 (leB_len _ _) (by omega)
  have n6 : num ((bs.drop 6).take 2) = FL := nstep q6 (by omega)
  have q8 := dstep (o' := 8) q6 (leB_len _ _) (by omega)
  have n8 : num ((bs.drop 8).take 2) = me := nstep q8 (by omega)
  have q10 := dstep (o' := 10) q8 (leB_len _ _) (by omega)
  have n10 : num ((bs.drop 10).take 2) = CK := nstep q10 (by omega)
  have q12 := dstep (o' := 12) q10 (leB_len _ _) (by omega)
  have n12 : num ((bs.drop 12).take 2) = DT := nstep q12 (by omega)
  have q14 := dstep (o' := 14) q12 (leB_len _ _) (by omega)
  have n14 : num ((bs.drop 14).take 4) = c := nstep q14 (by omega)
  have q18 := dstep (o' := 18) q14 (leB_len _ _) (by omega)
  have n18 : num ((bs.drop 18).take 4) = 4294967295 := nstep q18 (by omega)
  have q22 := dstep (o' := 22) q18 (leB_len _ _) (by omega)
  have n22 : num ((bs.drop 22).take 4) = 4294967295 := nstep q22 (by omega)
  have q26 := dstep (o' := 26) q22 (leB_len _ _) (by omega)
  have n26 : num ((bs.drop 26).take 2) = s.size := nstep q26 (by omega)
  have q28 := dstep (o' := 28) q26 (leB_len _ _) (by omega)
  have n28 : num ((bs.drop 28).take 2) = 20 := nstep q28 (by omega)
  have q30 := dstep (o' := 30) q28 (leB_len _ _) (by omega)
  exact ⟨n4, n26⟩
set_option maxRecDepth 100000 in
set_option maxHeartbeats 4000000 in
theorem pre_read (bs : List UInt8) (n ln : Nat) (wd : Bool) (hn : n ≤ 1000) (hl : 28 ≤ n → num ((bs.drop 26).take 2) = ln) (hv : 28 ≤ n → (num ((bs.drop 4).take 2) == 45) = wd) (hlt : n < if wd = true then ln + 50 else 30 + ln) :
    ∃ (K : Int) (L : Nat) (s : ByteArray) (y mo d h mi se me c p z : Int) (wd lt : Bool), K ≠ 0 ∧ ∀ (g : Nat) (A : Option Addr) (cap : Nat) (w : World), Env w → Rdr w g A n cap bs 0 → n ≤ cap → cap ≤ 9223372036854775807 → 3 ≤ g → Calls Tryd.prog 21 #[.pointer (some ⟨g, 0, none⟩)] w (RdH w g A n cap L K (.agg #[.string s, .int .i64 y, .int .i64 mo, .int .i64 d, .int .i64 h, .int .i64 mi, .int .i64 se, .int .i64 me, .int .u32 c, .int .i64 p, .int .i64 z, .bool wd, .bool lt])) := by
  cases hx : (num ((bs.drop 4).take 2) == 45) with
  | false =>
    refine ⟨_, _, _, _, _, _, _, _, _, _, _, _, _, _, _, ?_, fun g A cap w hE hR hnc hcc hg3 => hread_slim g A n cap bs _ _ _ _ _ _ _ _ _ _ _ _ _ _ _ _ _ _ _ _ _ _ _ _ w hE hR hn hnc hcc rfl rfl rfl rfl rfl rfl rfl rfl rfl hx rfl rfl rfl rfl hg3 rfl rfl rfl rfl rfl rfl ⟩
    intro hK
    have hm := bad_mem _ hK (by
      intro x hx
      simp only [dlS, List.mem_cons, List.not_mem_nil, or_false] at hx
      rcases hx with rfl | rfl | rfl | rfl | rfl | rfl | rfl | rfl | rfl | rfl | rfl | rfl | rfl | rfl | rfl | rfl | rfl | rfl | rfl
      all_goals simp)
    have a1 := hm (decide (28 ≤ n), 4) (by simp [dlS])
    have a2 := hm (decide (30 + num ((bs.drop 26).take 2) ≤ n), 4) (by simp [dlS])
    simp only [decide_eq_true_eq] at a1 a2
    have b1 := hl a1
    have b2 := hv a1
    rw [hx] at b2
    subst b2
    simp at hlt
    omega
  | true =>
    refine ⟨_, _, _, _, _, _, _, _, _, _, _, _, _, _, _, ?_, fun g A cap w hE hR hnc hcc hg3 => hread_wide g A n cap bs _ _ _ _ _ _ _ _ _ _ _ _ _ _ _ _ _ _ _ _ _ _ _ _ _ _ _ _ w hE hR hn hnc hcc rfl rfl rfl rfl rfl rfl rfl rfl rfl hx rfl rfl rfl rfl rfl rfl rfl rfl hg3 rfl rfl rfl rfl rfl rfl ⟩
    intro hK
    have hm := bad_mem _ hK (by
      intro x hx
      simp only [dlW, List.mem_cons, List.not_mem_nil, or_false] at hx
      rcases hx with rfl | rfl | rfl | rfl | rfl | rfl | rfl | rfl | rfl | rfl | rfl | rfl | rfl | rfl | rfl | rfl | rfl | rfl | rfl | rfl | rfl | rfl | rfl | rfl | rfl
      all_goals simp)
    have a1 := hm (decide (28 ≤ n), 4) (by simp [dlW])
    have a2 := hm (decide (num ((bs.drop 26).take 2) + 50 ≤ n), 4) (by simp [dlW])
    simp only [decide_eq_true_eq] at a1 a2
    have b1 := hl a1
    have b2 := hv a1
    rw [hx] at b2
    subst b2
    simp at hlt
    omega

theorem add_zero_addr (A : Option Addr) : Option.map (fun x => x.add 0) A = A := by cases A <;> rfl
theorem parse0_ok (A : Option Addr) (n cA : Nat) (bs : List UInt8) (S : Nat → Prop) (w : World) (hE : Env w) (hb : Bs w S A n bs) (hnn : n ≤ 1000) (hnc : n ≤ cA) (hcc : cA ≤ 9223372036854775807) (hca : cA ≠ 0) (m : Nat) (hm : min n 305 = m) (L : Nat) (s : ByteArray) (y mo d h mi se me c p z : Int) (wd lt : Bool) (hL : L ≤ 400)
    (hread : ∀ (g : Nat) (A : Option Addr) (cap : Nat) (w : World), Env w → Rdr w g A m cap (bs.take m) 0 → m ≤ cap → cap ≤ 9223372036854775807 → 3 ≤ g → Calls Tryd.prog 21 #[.pointer (some ⟨g, 0, none⟩)] w (RdH w g A m cap L 0 (.agg #[.string s, .int .i64 y, .int .i64 mo, .int .i64 d, .int .i64 h, .int .i64 mi, .int .i64 se, .int .i64 me, .int .u32 c, .int .i64 p, .int .i64 z, .bool wd, .bool lt]))) :
    Calls Tryd.prog 16 #[.slice A n cA, .int .i64 0] w fun e w' => e = .returned (.tuple #[.agg #[.string s, .int .i64 y, .int .i64 mo, .int .i64 d, .int .i64 h, .int .i64 mi, .int .i64 se, .int .i64 me, .int .u32 c, .int .i64 p, .int .i64 z, .bool wd, .bool lt], .int .i64 (L : Nat), .int .i64 0]) ∧ Below w.heap.size w w' := by
  have hg := World.block_lt_of_cell? w _ hE.2.choose_spec
  have hg : 2 < w.heap.size := hg
  have h := parse_ok_mid A n cA 0 m m (bs.take m) S w hE (Nat.zero_le _) hnn hnc hcc (by simpa using hm) (by simp) hca (by rw [add_zero_addr]; exact hb.take (by omega)) L s y mo d h mi se me c p z wd lt hL (fun g A2 c2 w' hR h1 hE' h2 h3 => hread g A2 c2 w' hE' hR h2 h3 (by omega))
  rw [Nat.zero_add] at h
  exact h
theorem parse0_bad (A : Option Addr) (n cA : Nat) (bs : List UInt8) (S : Nat → Prop) (w : World) (hE : Env w) (hb : Bs w S A n bs) (hnn : n ≤ 1000) (hnc : n ≤ cA) (hca : cA ≠ 0) (m : Nat) (hm : min n 305 = m) (K : Int) (L : Nat) (v : Value) (hK : K ≠ 0)
    (hread : ∀ (g : Nat) (A : Option Addr) (cap : Nat) (w : World), Env w → Rdr w g A m cap (bs.take m) 0 → m ≤ cap → cap ≤ 9223372036854775807 → 3 ≤ g → Calls Tryd.prog 21 #[.pointer (some ⟨g, 0, none⟩)] w (RdH w g A m cap L K v)) :
    Calls Tryd.prog 16 #[.slice A n cA, .int .i64 0] w fun e w' => e = .returned (.tuple #[.agg #[.string ⟨#[]⟩, .int .i64 0, .int .i64 0, .int .i64 0, .int .i64 0, .int .i64 0, .int .i64 0, .int .i64 0, .int .u32 0, .int .i64 0, .int .i64 0, .bool false, .bool false], .int .i64 0, .int .i64 K]) ∧ Below w.heap.size w w' := by
  have hg := World.block_lt_of_cell? w _ hE.2.choose_spec
  have hg : 2 < w.heap.size := hg
  exact parse_bad_mid A n cA 0 m m (bs.take m) S w hE (Nat.zero_le _) hnn hnc (by simpa using hm) (by simp) hca (by rw [add_zero_addr]; exact hb.take (by omega)) K L v hK (fun g A2 c2 w' hR h1 hE' h2 h3 => hread g A2 c2 w' hE' hR h2 h3 (by omega))
end Go.Proofs.YtdpiaabmgdhekaaDoor
