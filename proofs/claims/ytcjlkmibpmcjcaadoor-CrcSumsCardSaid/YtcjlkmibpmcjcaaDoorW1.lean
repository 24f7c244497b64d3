import Derived.Test.YtcjlkmibpmcjcaaDoorRows
import Derived.Test.YtcjlkmibpmcjcaaDoorOver
import Derived.Test.YtcjlkmibpmcjcaaDoorList
import Derived.Test.YtcjlkmibpmcjcaaDoorBits
import Derived.Test.YtcjlkmibpmcjcaaDoorMath
import Derived.WalkSpells
import Derived.WalkLawsBesides
import Derived.Lib.Hide
import Derived.Lib.SlBytesConst
import Derived.LoopTactic
namespace Go.Proofs.YtcjlkmibpmcjcaaDoor
open Go.RowKit

theorem ret_int {k : IntKind} {a b : Int} (h : a = b) : Ending.returned (.int k a) = .returned (.int k b) := by rw [h]
theorem ret_bool {a b : Bool} (h : a = b) : Ending.returned (.bool a) = .returned (.bool b) := by rw [h]
/-- The table lies. -/
def Tab (w : World) : Prop := ∀ i, i < 16 → w.cell? ⟨0, i, none⟩ = some (.int .u32 ((Crc.half.getD i 0 : Nat) : Int))
abbrev bytes (ns : List Nat) : List Value := (ns.map fun (n : Nat) => (n : Int)).map (Value.int .u8)
def Small (ns : List Nat) : Prop := ∀ b ∈ ns, b < 256
theorem Small.get {ns : List Nat} (h : Small ns) (k : Nat) : ns.getD k 0 < 256 := by
  rcases Nat.lt_or_ge k ns.length with hk | hk
  · rw [List.getD_eq_getElem?_getD, List.getElem?_eq_getElem hk]
    exact h _ (List.getElem_mem hk)
  · rw [List.getD_eq_getElem?_getD, List.getElem?_eq_none hk]
    simp
theorem nat_getD (ns : List Nat) (k : Nat) : (ns.map fun (n : Nat) => (n : Int)).getD k 0 = ((ns.getD k 0 : Nat) : Int) := by
  rw [List.getD_eq_getElem?_getD, List.getElem?_map, List.getD_eq_getElem?_getD]
  cases ns[k]? <;> rfl
theorem bytes_at {w : World} {S : Nat → Prop} {A : Option Addr} {n : Nat} {ns : List Nat} (h : Lst w S 1 A n (bytes ns)) {i : Nat} (hi : i < n) : ∃ b off, A = some ⟨b, off, none⟩ ∧ b < w.heap.size ∧ S b ∧ w.cell? ⟨b, off + i, none⟩ = some (.int .u8 ((ns.getD i 0 : Nat) : Int)) := by
  have := h.int_at hi
  rw [nat_getD] at this
  exact this
theorem xor32 (a b c : Nat) (ha : a < 4294967296) (hb : b < 4294967296) (hc : a ^^^ b = c) : bits .xor .u32 (a : Int) (b : Int) = (c : Int) := by
  rw [u32_xor_nat a b ha hb, hc]
theorem polyxor (a : Nat) (ha : a < 4294967296) : bits .xor .u32 ((a : Int) / 2) 3988292384 = ((a / 2 ^^^ Crc.poly : Nat) : Int) := by
  have e : ((a : Int) / 2) = ((a / 2 : Nat) : Int) := by omega
  have := u32_xor_nat (a / 2) Crc.poly (by omega) (by decide)
  rw [e]
  exact this
theorem not32 (s : Nat) (hs : s < 4294967296) : bits .xor .u32 IntKind.u32.max (s : Int) = ((Crc.ones - s : Nat) : Int) := by
  have e : IntKind.u32.max = ((Crc.ones : Nat) : Int) := by decide
  rw [e, u32_xor_nat _ _ (by decide) hs, Nat.xor_comm, Crc.compl s hs]
theorem half32 (a t c : Nat) (ha : a < 4294967296) (ht : t < 4294967296) (hc : (a / 16) ^^^ t = c) : bits .xor .u32 ((a : Int) / 16) (t : Int) = (c : Int) := by
  have e : ((a : Int) / 16) = ((a / 16 : Nat) : Int) := by omega
  rw [e, u32_xor_nat _ _ (by omega) ht, hc]
theorem and15 (a : Nat) (ha : a < 4294967296) : bits .and .u32 (a : Int) 15 = ((a % 16 : Nat) : Int) := by
  have := u32_and_nat a 15 ha (by omega)
  rw [nat_mask4] at this
  exact this
set_option maxHeartbeats 1000000 in
theorem update_any (A : Option Addr) (n c s : Nat) (ns : List Nat) (S : Nat → Prop) (w : World) (hT : Tab w) (hL : Lst w S 1 A n (bytes ns)) (hb : Small ns) (hl : n ≤ 9223372036854775807) (hs : s < 4294967296) :
    Calls Tryd.prog 7 #[.int .u32 (s : Int), .slice A n c] w fun e w' => e = .returned (.int .u32 ((Crc.sum s ns : Nat) : Int)) ∧ w = w' := by
  have hn : ns.length = n := by have := hL.len; simpa using this
  subst hn
  have HL := Lib.hid hL
  have HB := Lib.hid hb
  have HT := Lib.hid hT
  clear hL hb hT
  have hn1 := not32 s hs
  go_enter Tryd.func7, Tryd.ntmps7
  go_wp2
  clear hn1
  go_loop [0, 11] (fun v i => ∃ k : Nat, k ≤ ns.length ∧ i = .int .i64 k ∧ v = .int .u32 ((Crc.run (Crc.ones - s) (ns.take k) : Nat) : Int)) (fun _ i => ns.length - (intOf i).toNat)
  case atStart => exact ⟨0, Nat.zero_le _, rfl, rfl⟩
  case round =>
    obtain ⟨k, hk, rfl, rfl⟩ := hrel
    have hr := Crc.run_lt (ns.take k) (Crc.ones - s) (by unfold Crc.ones; omega) (fun b hb => HB.out b (List.mem_of_mem_take hb))
    by_cases hlt : k < ns.length
    · obtain ⟨b, off, rfl, _, _, hc⟩ := bytes_at HL.out hlt
      have hbyte := HB.out.get k
      have HS := Lib.hid (Crc.run_take (Crc.ones - s) ns k hlt)
      generalize ns.getD k 0 = y at *
      generalize Crc.run (Crc.ones - s) (ns.take k) = s1 at *
      obtain ⟨x1, e1⟩ : ∃ x, s1 ^^^ y = x := ⟨_, rfl⟩
      have l1 : x1 < 4294967296 := by rw [← e1]; exact Crc.xor_lt _ _ hr (by omega)
      have h1 := xor32 s1 y x1 hr (by omega) e1
      have h2 := and15 x1 l1
      obtain ⟨r1, d1⟩ : ∃ x, x1 % 16 = x := ⟨_, rfl⟩
      rw [d1] at h2
      have i1 : (r1 : Int) < 16 := by omega
      have i2 : (0 : Int) ≤ (r1 : Int) := by omega
      have t1 := HT.out r1 (by omega)
      have u1 := Crc.half_lt r1 (by omega)
      have q1 := Crc.nib x1
      rw [d1] at q1
      generalize Crc.half.getD r1 0 = z1 at *
      obtain ⟨x2, e2⟩ : ∃ x, Crc.bit4 x1 = x := ⟨_, rfl⟩
      have l2 : x2 < 4294967296 := by rw [← e2]; exact Crc.bit4_lt _ l1
      rw [e2] at q1
      have h3 := half32 x1 z1 x2 l1 u1 q1
      have h4 := and15 x2 l2
      obtain ⟨r2, d2⟩ : ∃ x, x2 % 16 = x := ⟨_, rfl⟩
      rw [d2] at h4
      have i3 : (r2 : Int) < 16 := by omega
      have i4 : (0 : Int) ≤ (r2 : Int) := by omega
      have t2 := HT.out r2 (by omega)
      have u2 := Crc.half_lt r2 (by omega)
      have q2 := Crc.nib x2
      rw [d2] at q2
      generalize Crc.half.getD r2 0 = z2 at *
      obtain ⟨x3, e3⟩ : ∃ x, Crc.bit4 x2 = x := ⟨_, rfl⟩
      rw [e3] at q2
      have h5 := half32 x2 z2 x3 l2 u2 q2
      have E1 := Lib.hid e1
      have E2 := Lib.hid e2
      have E3 := Lib.hid e3
      clear e1 e2 e3 d1 d2 q1 q2 l1 l2 u1 u2
      go_wp2
      go_round
      case rel => exact ⟨k + 1, by omega, by go_num, by rw [HS.out, E1.out]; unfold Crc.bit8; rw [E2.out, E3.out]⟩
      case measure => simp [intOf]; omega
    · have hk' : k = ns.length := by omega
      subst hk'
      rw [List.take_of_length_le (Nat.le_refl _)] at *
      have hn2 := not32 _ hr
      go_wp2
      go_ret
      exact ⟨ret_int rfl, rfl⟩
set_option maxHeartbeats 1000000 in
theorem rupdate_any (A : Option Addr) (n c s : Nat) (ns : List Nat) (S : Nat → Prop) (w : World) (hL : Lst w S 1 A n (bytes ns)) (hb : Small ns) (hl : n ≤ 9223372036854775807) (hs : s < 4294967296) :
    Calls Tryd.prog 8 #[.int .u32 (s : Int), .slice A n c] w fun e w' => e = .returned (.int .u32 ((Crc.sum s ns : Nat) : Int)) ∧ w = w' := by
  have hn : ns.length = n := by have := hL.len; simpa using this
  subst hn
  have HL := Lib.hid hL
  have HB := Lib.hid hb
  clear hL hb
  have hsub : (4294967295 : Int) - (s : Int) = ((Crc.ones - s : Nat) : Int) := by unfold Crc.ones; omega
  go_enter Tryd.func8, Tryd.ntmps8
  go_wp2
  clear hsub
  go_loop [5, 6] (fun v i => ∃ k : Nat, k ≤ ns.length ∧ i = .int .i64 k ∧ v = .int .u32 ((Crc.run (Crc.ones - s) (ns.take k) : Nat) : Int)) (fun _ i => ns.length - (intOf i).toNat)
  case atStart => exact ⟨0, Nat.zero_le _, rfl, rfl⟩
  case round =>
    obtain ⟨k, hk, rfl, rfl⟩ := hrel
    have hr := Crc.run_lt (ns.take k) (Crc.ones - s) (by unfold Crc.ones; omega) (fun b hb => HB.out b (List.mem_of_mem_take hb))
    by_cases hlt : k < ns.length
    · obtain ⟨b, off, rfl, _, _, hc⟩ := bytes_at HL.out hlt
      have hbyte := HB.out.get k
      have HS := Lib.hid (Crc.run_take (Crc.ones - s) ns k hlt)
      generalize ns.getD k 0 = y at *
      generalize Crc.run (Crc.ones - s) (ns.take k) = s1 at *
      obtain ⟨x1, e1⟩ : ∃ x, s1 ^^^ y = x := ⟨_, rfl⟩
      have l1 : x1 < 4294967296 := by rw [← e1]; exact Crc.xor_lt _ _ hr (by omega)
      have h1 := xor32 s1 y x1 hr (by omega) e1
      have E1 := Lib.hid e1
      clear e1
      go_wp2
      go_loop [5, 7] (fun v i => ∃ j : Nat, j ≤ 8 ∧ i = .int .i64 j ∧ v = .int .u32 ((Crc.bitN j x1 : Nat) : Int)) (fun _ i => 8 - (intOf i).toNat)
      case atStart => exact ⟨0, by omega, rfl, rfl⟩
      case round =>
        obtain ⟨j, hj, rfl, rfl⟩ := hrel
        have lx := Crc.bitN_lt j x1 l1
        by_cases hj8 : j < 8
        · have HN := Lib.hid (show Crc.bitN (j + 1) x1 = Crc.bit (Crc.bitN j x1) from rfl)
          generalize Crc.bitN j x1 = x at *
          by_cases ho : x % 2 = 1
          · have hx := polyxor x lx
            have HB := Lib.hid (show Crc.bit x = x / 2 ^^^ Crc.poly from if_pos ho)
            generalize x / 2 ^^^ Crc.poly = x' at hx HB
            have ho' : (((x : Int) % 2) == 1) = true := by simp; omega
            go_wp2
            go_round
            case rel => exact ⟨j + 1, by omega, by go_num, by rw [HN.out, HB.out]⟩
            case measure => simp [intOf]; omega
          · have HB := Lib.hid (show Crc.bit x = x / 2 from if_neg ho)
            have ho' : (((x : Int) % 2) == 1) = false := by simp; omega
            go_wp2
            go_round
            case rel => exact ⟨j + 1, by omega, by go_num, by rw [HN.out, HB.out]; congr 1⟩
            case measure => simp [intOf]; omega
        · have hj' : j = 8 := by omega
          subst hj'
          have HN := Lib.hid (Crc.bitN8 x1)
          generalize Crc.bitN 8 x1 = x at *
          go_wp2
          go_round
          case rel => exact ⟨k + 1, by omega, by go_num, by rw [HS.out, E1.out, HN.out]⟩
          case measure => simp [intOf]; omega
    · have hk' : k = ns.length := by omega
      subst hk'
      rw [List.take_of_length_le (Nat.le_refl _)] at *
      have hsub : (4294967295 : Int) - ((Crc.run (Crc.ones - s) ns : Nat) : Int) = ((Crc.ones - Crc.run (Crc.ones - s) ns : Nat) : Int) := by unfold Crc.ones at *; omega
      go_wp2
      go_ret
      exact ⟨ret_int rfl, rfl⟩
end Go.Proofs.YtcjlkmibpmcjcaaDoor
