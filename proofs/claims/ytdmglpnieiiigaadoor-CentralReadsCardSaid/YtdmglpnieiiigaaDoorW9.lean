/- The page has none; the outcome of any bytes; the law of reading. -/
import Derived.Test.YtdmglpnieiiigaaDoorW8
import Derived.Test.YtdmglpnieiiigaaDoorW6
namespace Go.Proofs.YtdmglpnieiiigaaDoor
open Go.RowKit

theorem tm_some (r : Bool) (a b : Int) : ∃ y mo d h mi s, (if r = true then tmD a b else tm 0 0 0 0 0 0) = tm y mo d h mi s := by
  cases r
  · exact ⟨0, 0, 0, 0, 0, 0, if_neg (by decide)⟩
  · exact ⟨_, _, _, _, _, _, if_pos rfl⟩
set_option maxHeartbeats 2000000 in
theorem page_none (bs : List UInt8) (n : Nat) (hlen : bs.length = n) (hn : n ≤ 1000) (h1 : ¬ Slim bs) (h2 : ¬ Wide bs) : Page bs n #[.string ⟨#[]⟩, .int .i64 0, .int .i64 0, .int .i64 0, .int .i64 0, .int .i64 0, .int .i64 0, .int .i64 0, .int .u32 0, .int .i64 0, .int .i64 0, .bool false, .bool false] 0 0 := by
  intro A c S w hS hB hnc
  by_cases h46 : n < 46
  · exact rparse_short A n c w h46
  by_cases hcut : n - 46 < num ((bs.drop 28).take 2)
  · exact rparse_cut A n c bs S w _ hB hn (by omega) hnc rfl hcut
  have h46' : 46 + num ((bs.drop 28).take 2) ≤ n := by omega
  cases hx : (num ((bs.drop 6).take 2) == 45) with
  | false =>
    cases htk : rightD (num ((bs.drop 14).take 2)) (num ((bs.drop 12).take 2)) with
    | false =>
      by_cases hc : c = 46
      · exact rparse_slim_time_end A n c bs S w hS _ _ _ _ _ _ _ _ _ _ _ _ _ _ _ _ _ _ _ _ hB hn (by omega) hnc rfl rfl rfl rfl rfl rfl rfl rfl rfl rfl rfl rfl rfl htk (if_neg (by decide)) rfl hc hx
      · exact rparse_slim_time A n c bs S w hS _ _ _ _ _ _ _ _ _ _ _ _ _ _ _ _ _ _ _ _ hB hn (by omega) hnc rfl rfl rfl rfl rfl rfl rfl rfl rfl rfl rfl rfl rfl htk (if_neg (by decide)) rfl hc hx
    | true =>
      cases hK : (codeC (⟨((bs.drop 46).take (num ((bs.drop 28).take 2))).toArray⟩ : ByteArray) (rightD (num ((bs.drop 14).take 2)) (num ((bs.drop 12).take 2))) (num ((bs.drop 10).take 2)) (num ((bs.drop 20).take 4)) (num ((bs.drop 24).take 4)) (num ((bs.drop 42).take 4)) == 0) with
      | false =>
        by_cases hc : c = 46
        · exact rparse_slim_code_end A n c bs S w hS _ _ _ _ _ _ _ _ _ _ _ _ _ _ _ _ _ _ _ _ hB hn (by omega) hnc rfl rfl rfl rfl rfl rfl rfl rfl rfl rfl rfl rfl rfl htk (if_pos rfl) rfl hc hx _ hK rfl
        · exact rparse_slim_code A n c bs S w hS _ _ _ _ _ _ _ _ _ _ _ _ _ _ _ _ _ _ _ _ hB hn (by omega) hnc rfl rfl rfl rfl rfl rfl rfl rfl rfl rfl rfl rfl rfl htk (if_pos rfl) rfl hc hx _ hK rfl
      | true =>
        have hk := beq_iff_eq.1 hK
        have hn0 : num ((bs.drop 28).take 2) ≠ 0 := by
          intro h
          have h3 := (codeH_zero (codeC_zero hk).1).1
          rw [h, List.take_zero, nameOk_empty rfl] at h3
          cases h3
        obtain ⟨DT, CK, FL, o⟩ := ok_of _ _ _ _ _ _ _ _ (num ((bs.drop 16).take 4)) _ _ _ (num ((bs.drop 8).take 2) / 8 % 2 == 1) (num_bd _ _ _ _ rfl) hk
        by_cases hq : bs.take (46 + num ((bs.drop 28).take 2)) = ES (⟨((bs.drop 46).take (num ((bs.drop 28).take 2))).toArray⟩ : ByteArray) (num ((bs.drop 10).take 2)) (num ((bs.drop 16).take 4)) (num ((bs.drop 20).take 4)) (num ((bs.drop 24).take 4)) (num ((bs.drop 42).take 4)) DT CK FL
        · exact absurd ⟨_, _, _, _, _, _, _, _, _, _, _, _, _, _, _, _, o, bs.drop (46 + num ((bs.drop 28).take 2)), by rw [← hq, List.take_append_drop]⟩ h1
        · have hsz : ByteArray.size (⟨((bs.drop 46).take (num ((bs.drop 28).take 2))).toArray⟩ : ByteArray) = num ((bs.drop 28).take 2) := by
            show (((bs.drop 46).take (num ((bs.drop 28).take 2))).toArray).size = _
            simp
            omega
          have hen := enc_slim _ _ _ _ _ _ _ _ _ _ _ _ _ _ _ _ o
          rw [hsz] at hen
          exact rparse_slim_diff A n c bs S w hS _ _ _ _ _ _ _ _ _ _ _ _ _ _ _ _ _ _ _ _ hB hn (by omega) hnc rfl rfl rfl rfl rfl rfl rfl rfl rfl rfl rfl rfl rfl htk (if_pos rfl) rfl (by omega) hx hk _ hen hq
  | true =>
    by_cases h74 : n < num ((bs.drop 28).take 2) + 74
    · by_cases hc : c = 46
      · obtain ⟨ty, tmo, td, th, tmi, ts, htm⟩ := tm_some (rightD (num ((bs.drop 14).take 2)) (num ((bs.drop 12).take 2))) (num ((bs.drop 14).take 2)) (num ((bs.drop 12).take 2))
        exact rparse_wide_short_end A n c bs S w hS _ _ _ _ _ _ _ _ _ _ _ _ _ _ _ _ _ _ _ _ _ hB hn (by omega) hnc rfl rfl rfl rfl rfl rfl rfl rfl rfl rfl rfl rfl rfl rfl htm rfl hc hx h74
      · obtain ⟨ty, tmo, td, th, tmi, ts, htm⟩ := tm_some (rightD (num ((bs.drop 14).take 2)) (num ((bs.drop 12).take 2))) (num ((bs.drop 14).take 2)) (num ((bs.drop 12).take 2))
        exact rparse_wide_short A n c bs S w hS _ _ _ _ _ _ _ _ _ _ _ _ _ _ _ _ _ _ _ _ _ hB hn (by omega) hnc rfl rfl rfl rfl rfl rfl rfl rfl rfl rfl rfl rfl rfl rfl htm rfl hc hx h74
    by_cases hbg : ∃ q, q < 3 ∧ 8589934592 < num ((bs.drop (num ((bs.drop 28).take 2) + 50 + 8 * q)).take 8)
    · obtain ⟨ty, tmo, td, th, tmi, ts, htm⟩ := tm_some (rightD (num ((bs.drop 14).take 2)) (num ((bs.drop 12).take 2))) (num ((bs.drop 14).take 2)) (num ((bs.drop 12).take 2))
      exact rparse_wide_big A n c bs S w hS _ _ _ _ _ _ _ _ _ _ _ _ _ _ _ _ _ _ _ _ _ hB hn (by omega) hnc rfl rfl rfl rfl rfl rfl rfl rfl rfl rfl rfl rfl rfl rfl htm rfl _ _ _ (by omega) rfl rfl rfl (by omega) hx hbg
    have hno : ∀ q, q < 3 → num ((bs.drop (num ((bs.drop 28).take 2) + 50 + 8 * q)).take 8) ≤ 8589934592 := fun q hq => Nat.le_of_not_lt fun h => hbg ⟨q, hq, h⟩
    cases htk : rightD (num ((bs.drop 14).take 2)) (num ((bs.drop 12).take 2)) with
    | false =>
      exact rparse_wide_time A n c bs S w hS _ _ _ _ _ _ _ _ _ _ _ _ _ _ _ _ _ _ _ _ hB hn (by omega) hnc rfl rfl rfl rfl rfl rfl rfl rfl rfl rfl rfl rfl rfl htk (if_neg (by decide)) rfl _ _ _ (by omega) rfl rfl rfl (by omega) hx hno
    | true =>
      cases hK : (codeC (⟨((bs.drop 46).take (num ((bs.drop 28).take 2))).toArray⟩ : ByteArray) (rightD (num ((bs.drop 14).take 2)) (num ((bs.drop 12).take 2))) (num ((bs.drop 10).take 2)) (num ((bs.drop (num ((bs.drop 28).take 2) + 58)).take 8)) (num ((bs.drop (num ((bs.drop 28).take 2) + 50)).take 8)) (num ((bs.drop (num ((bs.drop 28).take 2) + 66)).take 8)) == 0) with
      | false =>
        exact rparse_wide_code A n c bs S w hS _ _ _ _ _ _ _ _ _ _ _ _ _ _ _ _ _ _ _ _ hB hn (by omega) hnc rfl rfl rfl rfl rfl rfl rfl rfl rfl rfl rfl rfl rfl htk (if_pos rfl) rfl _ _ _ (by omega) rfl rfl rfl (by omega) hx hno _ hK rfl
      | true =>
        have hk := beq_iff_eq.1 hK
        have hn0 : num ((bs.drop 28).take 2) ≠ 0 := by
          intro h
          have h3 := (codeH_zero (codeC_zero hk).1).1
          rw [h, List.take_zero, nameOk_empty rfl] at h3
          cases h3
        obtain ⟨DT, CK, FL, o⟩ := ok_of _ _ _ _ _ _ _ _ (num ((bs.drop 16).take 4)) _ _ _ (num ((bs.drop 8).take 2) / 8 % 2 == 1) (num_bd _ _ _ _ rfl) hk
        by_cases hq : bs.take (num ((bs.drop 28).take 2) + 74) = EW (⟨((bs.drop 46).take (num ((bs.drop 28).take 2))).toArray⟩ : ByteArray) (num ((bs.drop 10).take 2)) (num ((bs.drop 16).take 4)) (num ((bs.drop (num ((bs.drop 28).take 2) + 58)).take 8)) (num ((bs.drop (num ((bs.drop 28).take 2) + 50)).take 8)) (num ((bs.drop (num ((bs.drop 28).take 2) + 66)).take 8)) DT CK FL
        · exact absurd ⟨_, _, _, _, _, _, _, _, _, _, _, _, _, _, _, _, o, bs.drop (num ((bs.drop 28).take 2) + 74), by rw [← hq, List.take_append_drop]⟩ h2
        · have hsz : ByteArray.size (⟨((bs.drop 46).take (num ((bs.drop 28).take 2))).toArray⟩ : ByteArray) = num ((bs.drop 28).take 2) := by
            show (((bs.drop 46).take (num ((bs.drop 28).take 2))).toArray).size = _
            simp
            omega
          have hen := enc_wide _ _ _ _ _ _ _ _ _ _ _ _ _ _ _ _ o
          rw [hsz] at hen
          exact rparse_wide_diff A n c bs S w hS _ _ _ _ _ _ _ _ _ _ _ _ _ _ _ _ _ _ _ _ hB hn (by omega) hnc rfl rfl rfl rfl rfl rfl rfl rfl rfl rfl rfl rfl rfl htk (if_pos rfl) rfl _ _ _ (by omega) rfl rfl rfl (by omega) hx hno hk _ hen hq
def Yes (bs : List UInt8) (n : Nat) : Prop :=
  ∃ (s : ByteArray) (y mo d h mi se : Int) (me c p z : Nat) (wd lt : Bool) (pl L : Nat), 46 ≤ L ∧ L ≤ 329 ∧ L ≤ n ∧ Reads bs n 0 #[.string s, .int .i64 y, .int .i64 mo, .int .i64 d, .int .i64 h, .int .i64 mi, .int .i64 se, .int .i64 (me : Nat), .int .u32 (c : Nat), .int .i64 (p : Nat), .int .i64 (z : Nat), .bool wd, .bool lt, .int .i64 (pl : Nat)] L ∧ (∀ m, min n 329 = m → Reads (bs.take m) m 0 #[.string s, .int .i64 y, .int .i64 mo, .int .i64 d, .int .i64 h, .int .i64 mi, .int .i64 se, .int .i64 (me : Nat), .int .u32 (c : Nat), .int .i64 (p : Nat), .int .i64 (z : Nat), .bool wd, .bool lt, .int .i64 (pl : Nat)] L) ∧ Page bs n #[.string s, .int .i64 y, .int .i64 mo, .int .i64 d, .int .i64 h, .int .i64 mi, .int .i64 se, .int .i64 (me : Nat), .int .u32 (c : Nat), .int .i64 (p : Nat), .int .i64 (z : Nat), .bool wd, .bool lt] pl L
def No (bs : List UInt8) (n : Nat) : Prop := Bad bs n ∧ (∀ m, min n 329 = m → Bad (bs.take m) m) ∧ Page bs n #[.string ⟨#[]⟩, .int .i64 0, .int .i64 0, .int .i64 0, .int .i64 0, .int .i64 0, .int .i64 0, .int .i64 0, .int .u32 0, .int .i64 0, .int .i64 0, .bool false, .bool false] 0 0
theorem take_of {E rest bs : List UInt8} {m : Nat} (h : bs = E ++ rest) (hm : E.length ≤ m) : bs.take m = E ++ rest.take (m - E.length) := by
  rw [h, List.take_append, List.take_of_length_le hm]
theorem outcome (bs : List UInt8) (n : Nat) (hlen : bs.length = n) (hn : n ≤ 1000) : Yes bs n ∨ No bs n := by
  by_cases h1 : Slim bs
  · left
    obtain ⟨s, y, mo, d, h, mi, se, me, c, p, z, pl, DT, CK, FL, lt, o, rest, hbs⟩ := h1
    have hl := congrArg List.length hbs
    rw [List.length_append, ES_len, hlen] at hl
    have hs := o.hs
    refine ⟨s, y, mo, d, h, mi, se, me, c, p, z, false, lt, pl, 46 + s.size, by omega, by omega, by omega, reads_slim s y mo d h mi se me c p z pl DT CK FL lt o rest bs n hbs hlen hn, fun m hm => ?_, page_slim s y mo d h mi se me c p z pl DT CK FL lt o rest bs n hbs hlen hn⟩
    exact reads_slim s y mo d h mi se me c p z pl DT CK FL lt o _ _ m (take_of hbs (by rw [ES_len]; omega)) (by rw [List.length_take]; omega) (by omega)
  · by_cases h2 : Wide bs
    · left
      obtain ⟨s, y, mo, d, h, mi, se, me, c, p, z, pl, DT, CK, FL, lt, o, rest, hbs⟩ := h2
      have hl := congrArg List.length hbs
      rw [List.length_append, EW_len, hlen] at hl
      have hs := o.hs
      refine ⟨s, y, mo, d, h, mi, se, me, c, p, z, true, lt, pl, s.size + 74, by omega, by omega, by omega, reads_wide s y mo d h mi se me c p z pl DT CK FL lt o rest bs n hbs hlen hn, fun m hm => ?_, page_wide s y mo d h mi se me c p z pl DT CK FL lt o rest bs n hbs hlen hn⟩
      exact reads_wide s y mo d h mi se me c p z pl DT CK FL lt o _ _ m (take_of hbs (by rw [EW_len]; omega)) (by rw [List.length_take]; omega) (by omega)
    · right
      refine ⟨read_none bs n hlen hn h1 h2, fun m hm => read_none _ m (by rw [List.length_take]; omega) (by omega) ?_ ?_, page_none bs n hlen hn h1 h2⟩
      · rintro ⟨s, y, mo, d, h, mi, se, me, c, p, z, pl, DT, CK, FL, lt, o, rest, hbs⟩
        exact h1 ⟨s, y, mo, d, h, mi, se, me, c, p, z, pl, DT, CK, FL, lt, o, rest ++ bs.drop m, by rw [← List.append_assoc, ← hbs, List.take_append_drop]⟩
      · rintro ⟨s, y, mo, d, h, mi, se, me, c, p, z, pl, DT, CK, FL, lt, o, rest, hbs⟩
        exact h2 ⟨s, y, mo, d, h, mi, se, me, c, p, z, pl, DT, CK, FL, lt, o, rest ++ bs.drop m, by rw [← List.append_assoc, ← hbs, List.take_append_drop]⟩
theorem bs_mono {w w' : World} {S T : Nat → Prop} {A : Option Addr} {n : Nat} {bs : List UInt8} (h : Bs w S A n bs) (hb : Below w.heap.size w w') (hST : ∀ b, S b → T b) : Bs w' T A n bs := (h.below hb).mono fun b hs => hST b hs
theorem bk (W w : World) (hb : Below W.heap.size W w) : ∀ b, b < W.heap.size → b < w.heap.size := fun _ h => Nat.lt_of_lt_of_le h hb.size
set_option maxHeartbeats 4000000 in
theorem reads_any (A : Option Addr) (n cA : Nat) (bs : List UInt8) (at' : Int) (W : World) (hE : Env W) (hB : Bs W (fun b => b < W.heap.size) A n bs) (hnc : n ≤ cA) (hcc : cA ≤ 9223372036854775807) : Calls Tryd.prog 4 #[.slice A n cA, .int .i64 at'] W fun e w' => e = .returned (.bool true) ∧ Below W.heap.size W w' := by
  by_cases hn : 1000 < n
  · exact reads_long A n cA at' W hE hn
  have hn : n ≤ 1000 := by omega
  by_cases hr : at' < 0 ∨ (n : Int) < at'
  · exact reads_range A n cA at' W hE hn hr
  obtain ⟨k, rfl⟩ : ∃ k : Nat, at' = k := ⟨at'.toNat, by omega⟩
  have hk : k ≤ n := by omega
  have hlen := hB.len
  have g2 : 2 < W.heap.size := World.block_lt_of_cell? W _ hE.2.choose_spec
  by_cases hca : cA = k
  · obtain rfl : n = k := by omega
    subst hca
    have h0 : Bs W (fun b => b < W.heap.size) A 0 [] := by
      have := hB.take (k := 0) (Nat.zero_le _)
      simpa using this
    rcases outcome [] 0 rfl (by omega) with ⟨s, y, mo, d, h, mi, se, me, c, p, z, wd, lt, pl, L, l1, l2, l3, _⟩ | ⟨⟨K, L, s, y, mo, d, h, mi, se, me, c, p, z, wd, lt, pl, hK, hR⟩, _, hP⟩
    · omega
    · exact reads_none_eq A cA L [] K K _ (by simpa using hK) (by simpa using hK) W hE hn
        (Lib.hid fun w hb => parse_end A cA [] _ w (hE.below hb) hn (h0.below hb) K L _ hK (fun g A2 c2 w' r h1 hE' h2 h3 => hR g A2 c2 w' hE' r h2 h3 (by have := hb.size; omega)))
        (Lib.hid fun w hb => hP A 0 _ w (bk W w hb) (h0.below hb) (Nat.le_refl _))
        (Lib.hid fun w hb => h0.below hb)
        (Lib.hid fun g A2 cp w' hE' r h1 h2 h3 => hR g A2 cp w' hE' r h1 h2 h3)
  · obtain ⟨M, hM⟩ : ∃ M, n - k = M := ⟨_, rfl⟩
    have hS := bs_add hB hk
    rw [hM] at hS
    have hx : (bs.drop k).length = M := by rw [List.length_drop, hlen, hM]
    obtain ⟨m, hm⟩ : ∃ m, min M 329 = m := ⟨_, rfl⟩
    rcases outcome (bs.drop k) M hx (by omega) with ⟨s, y, mo, d, h, mi, se, me, c, p, z, wd, lt, pl, L, l1, l2, l3, hR, hRm, hP⟩ | ⟨⟨K, L, s, y, mo, d, h, mi, se, me, c, p, z, wd, lt, pl, hK, hR⟩, hRm, hP⟩
    · have hRm := hRm m hm
      exact reads_some A n cA k M L (bs.drop k) s y mo d h mi se me c p z wd lt pl W hE hn hk hM hnc hca (by omega) (by omega)
        (Lib.hid fun w hb => parse_ok_mid A n cA k (min n (k + 329)) m ((bs.drop k).take m) _ w (hE.below hb) hk hn hnc hcc rfl (by omega) hca ((hS.take (k := m) (by omega)).below hb) L s y mo d h mi se (me : Nat) (c : Nat) (p : Nat) (z : Nat) wd lt (pl : Nat) (by omega) (fun g A2 c2 w' r h1 hE' h2 h3 => hRm g A2 c2 w' hE' r h2 h3 (by have := hb.size; omega)))
        (Lib.hid fun w hb => hP _ _ _ w (bk W w hb) (hS.below hb) (by omega))
        (Lib.hid fun w hb => hS.below hb)
        (Lib.hid fun g A2 cp w' hE' r h1 h2 h3 => hR g A2 cp w' hE' r h1 h2 h3)
    · obtain ⟨Km, Lm, sm, ym, mom, dm, hm', mim, sem, mem, cm, pm, zm, wdm, ltm, plm, hKm, hRm⟩ := hRm m hm
      exact reads_none_ne A n cA k M L (bs.drop k) Km K _ (by simpa using hKm) (by simpa using hK) W hE hn hk hM hnc hca
        (Lib.hid fun w hb => parse_bad_mid A n cA k (min n (k + 329)) m ((bs.drop k).take m) _ w (hE.below hb) hk hn hnc rfl (by omega) hca ((hS.take (k := m) (by omega)).below hb) Km Lm _ hKm (fun g A2 c2 w' r h1 hE' h2 h3 => hRm g A2 c2 w' hE' r h2 h3 (by have := hb.size; omega)))
        (Lib.hid fun w hb => hP _ _ _ w (bk W w hb) (hS.below hb) (by omega))
        (Lib.hid fun w hb => hS.below hb)
        (Lib.hid fun g A2 cp w' hE' r h1 h2 h3 => hR g A2 cp w' hE' r h1 h2 h3)
end Go.Proofs.YtdmglpnieiiigaaDoor
