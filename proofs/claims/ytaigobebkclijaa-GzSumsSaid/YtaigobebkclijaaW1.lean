import Derived.Test.YtaigobebkclijaaRows
import Derived.Test.YtaigobebkclijaaOver
import Derived.Test.YtaigobebkclijaaList
import Derived.Test.YtaigobebkclijaaBits
import Derived.WalkSpells
import Derived.WalkLawsBesides
import Derived.Lib.Hide
import Derived.Lib.SlBytesConst
import Derived.LoopTactic
namespace Go.Proofs.Ytaigobebkclijaa
open Go.RowKit

theorem ret_int {k : IntKind} {a b : Int} (h : a = b) : Ending.returned (.int k a) = .returned (.int k b) := by rw [h]
theorem ret_bool {a b : Bool} (h : a = b) : Ending.returned (.bool a) = .returned (.bool b) := by rw [h]
def step (s : Int × Int) (c : Int) : Int × Int := ((s.1 + c) % 65521, (s.2 + (s.1 + c) % 65521) % 65521)
def adl (ns : List Int) : Int × Int := ns.foldl step (1, 0)
def adler (ns : List Int) : Int := (adl ns).2 * 65536 + (adl ns).1
theorem adl_take (ns : List Int) (k : Nat) (h : k < ns.length) : adl (ns.take (k + 1)) = step (adl (ns.take k)) (ns.getD k 0) := by
  unfold adl
  rw [List.take_succ_eq_append_getElem h, List.foldl_append, List.getD_eq_getElem?_getD, List.getElem?_eq_getElem h]
  rfl
theorem step_bd (s : Int × Int) (c : Int) : 0 ≤ (step s c).1 ∧ (step s c).1 < 65521 ∧ 0 ≤ (step s c).2 ∧ (step s c).2 < 65521 := by
  unfold step
  simp only
  omega
theorem adl_bd (ns : List Int) : 0 ≤ (adl ns).1 ∧ (adl ns).1 < 65521 ∧ 0 ≤ (adl ns).2 ∧ (adl ns).2 < 65521 := by
  rcases List.eq_nil_or_concat ns with rfl | ⟨l, c, rfl⟩
  · exact ⟨by decide, by decide, by decide, by decide⟩
  · have : adl (l.concat c) = step (adl l) c := by simp [adl]
    rw [this]
    exact step_bd _ _
def Bytes (ns : List Int) : Prop := ∀ x ∈ ns, 0 ≤ x ∧ x ≤ 255
theorem Bytes.get {ns : List Int} (h : Bytes ns) (k : Nat) : 0 ≤ ns.getD k 0 ∧ ns.getD k 0 ≤ 255 := by
  rcases Nat.lt_or_ge k ns.length with hk | hk
  · rw [List.getD_eq_getElem?_getD, List.getElem?_eq_getElem hk]
    exact h _ (List.getElem_mem hk)
  · rw [List.getD_eq_getElem?_getD, List.getElem?_eq_none hk]
    simp
theorem or32 (x y : Int) (x0 : 0 ≤ x) (x1 : x < 65521) (y0 : 0 ≤ y) (y1 : y < 65521) : bits .or .u32 (y * 65536) x = y * 65536 + x := by
  obtain ⟨a, rfl⟩ := Int.eq_ofNat_of_zero_le x0
  obtain ⟨b, rfl⟩ := Int.eq_ofNat_of_zero_le y0
  have e : ((b : Int) * 65536) = ((2 ^ 16 * b : Nat) : Int) := by omega
  rw [e, u32_or_nat _ _ (by omega) (by omega), ← Nat.two_pow_add_eq_or_of_lt (show a < 2 ^ 16 by omega)]
  omega
set_option maxHeartbeats 400000 in
theorem adler_any (A : Option Addr) (n c : Nat) (ns : List Int) (S : Nat → Prop) (w : World) (hL : Lst w S 1 A n (ns.map (Value.int .u8))) (hb : Bytes ns) (hl : n ≤ 9223372036854775807) :
    Calls Try.prog 5 #[.slice A n c] w fun e w' => e = .returned (.int .u32 (adler ns)) ∧ w = w' := by
  have hn : ns.length = n := by have := hL.len; simpa using this
  subst hn
  have HL := Lib.hid hL
  have HB := Lib.hid hb
  clear hL hb
  go_enter Try.func5, Try.ntmps5
  go_wp2
  go_loop [3, 4, 9] (fun x y i => ∃ k : Nat, k ≤ ns.length ∧ i = .int .i64 k ∧ x = .int .u32 (adl (ns.take k)).1 ∧ y = .int .u32 (adl (ns.take k)).2) (fun _ _ i => ns.length - (intOf i).toNat)
  case atStart => exact ⟨0, Nat.zero_le _, rfl, rfl, rfl⟩
  case round =>
    obtain ⟨k, hk, rfl, rfl, rfl⟩ := hrel
    obtain ⟨b1, b2, b3, b4⟩ := adl_bd (ns.take k)
    by_cases hlt : k < ns.length
    · obtain ⟨b, off, rfl, _, _, hc⟩ := HL.out.int_at hlt
      obtain ⟨d1, d2⟩ := HB.out.get k
      have HS := Lib.hid (adl_take ns k hlt)
      generalize ns.getD k 0 = v at *
      generalize hs : adl (ns.take k) = s at *
      clear hs
      go_wp2
      go_round
      case rel => exact ⟨k + 1, by omega, by go_num, by rw [HS.out]; rfl, by rw [HS.out]; rfl⟩
      case measure => simp [intOf]; omega
    · have hk' : k = ns.length := by omega
      subst hk'
      rw [List.take_of_length_le (Nat.le_refl _)] at *
      have HO := Lib.hid (or32 _ _ b1 b2 b3 b4)
      go_wp2
      go_ret
      exact ⟨ret_int (by unfold adler; exact HO.out), rfl⟩
set_option maxHeartbeats 400000 in
theorem radler_any (A : Option Addr) (n c : Nat) (ns : List Int) (S : Nat → Prop) (w : World) (hL : Lst w S 1 A n (ns.map (Value.int .u8))) (hb : Bytes ns) (hl : n ≤ 9223372036854775807) :
    Calls Try.prog 6 #[.slice A n c] w fun e w' => e = .returned (.int .i64 (adler ns)) ∧ w = w' := by
  have hn : ns.length = n := by have := hL.len; simpa using this
  subst hn
  have HL := Lib.hid hL
  have HB := Lib.hid hb
  clear hL hb
  go_enter Try.func6, Try.ntmps6
  go_wp2
  go_loop [3, 4, 5] (fun x y i => ∃ k : Nat, k ≤ ns.length ∧ i = .int .i64 k ∧ x = .int .i64 (adl (ns.take k)).1 ∧ y = .int .i64 (adl (ns.take k)).2) (fun _ _ i => ns.length - (intOf i).toNat)
  case atStart => exact ⟨0, Nat.zero_le _, rfl, rfl, rfl⟩
  case round =>
    obtain ⟨k, hk, rfl, rfl, rfl⟩ := hrel
    obtain ⟨b1, b2, b3, b4⟩ := adl_bd (ns.take k)
    by_cases hlt : k < ns.length
    · obtain ⟨b, off, rfl, _, _, hc⟩ := HL.out.int_at hlt
      obtain ⟨d1, d2⟩ := HB.out.get k
      have HS := Lib.hid (adl_take ns k hlt)
      generalize ns.getD k 0 = v at *
      generalize hs : adl (ns.take k) = s at *
      clear hs
      go_wp2
      go_round
      case rel => exact ⟨k + 1, by omega, by go_num, by rw [HS.out]; rfl, by rw [HS.out]; rfl⟩
      case measure => simp [intOf]; omega
    · have hk' : k = ns.length := by omega
      subst hk'
      rw [List.take_of_length_le (Nat.le_refl _)] at *
      go_wp2
      go_ret
      exact ⟨ret_int rfl, rfl⟩
set_option maxHeartbeats 400000 in
theorem awake_any (w : World) : Calls Try.prog 4 #[] w fun e w' => e = .returned (.bool true) ∧ Below w.heap.size w w' := by
  have kc := fun (w : World) (C : Array Value) (n c : Nat) => Lib.run_convert_bytes_const (P := Try.prog) w 22 5 C n c Try.underlying22 Try.underlying5
  go_enter Try.func4, Try.ntmps4
  go_wp2_with fail
  refine (adler_any _ 9 _ [87, 105, 107, 105, 112, 101, 100, 105, 97] _ _ (Lst.new w 5 #[.int .u8 87, .int .u8 105, .int .u8 107, .int .u8 105, .int .u8 112, .int .u8 101, .int .u8 100, .int .u8 105, .int .u8 97] 9 rfl rfl) (by intro x hx; simp at hx; omega) (by omega)).mono ?_
  rw [show adler [87, 105, 107, 105, 112, 101, 100, 105, 97] = 300286872 from by decide]
  rintro e w1 ⟨rfl, rfl⟩
  go_wp2
  go_ret
  exact ⟨rfl, (Below.refl _ _).alloc (Nat.le_refl _) _⟩
theorem info5 : (Try.prog.info? 5).map (fun i => (i.zero, i.size, i.bytes)) = some (some (.int .u8 0), 1, 1) := by kernel_rfl
set_option maxHeartbeats 1000000 in
theorem sums_any (A : Option Addr) (n c : Nat) (t : Int) (ns : List Int) (S : Nat → Prop) (w : World) (hL : Lst w S 1 A n (ns.map (Value.int .u8))) (hb : Bytes ns) (hl : n ≤ 9223372036854775807) (t0 : 0 ≤ t) (t1 : t ≤ 255) :
    Calls Try.prog 3 #[.slice A n c, .int .u8 t] w fun e w' => e = .returned (.bool true) ∧ Below w.heap.size w w' := by
  have HL := Lib.hid hL
  have HB := Lib.hid hb
  clear hL hb
  by_cases hlong : 300 < n
  · go_enter Try.func3, Try.ntmps3
    go_wp2_with fail
    refine (awake_any _).mono ?_
    rintro e w1 ⟨rfl, hb1⟩
    have HB1 := Lib.hid hb1
    clear hb1
    go_wp2
    go_ret
    exact ⟨rfl, HB1.out⟩
  · obtain ⟨i0, hi, hz0, hz1, hz2⟩ := info_parts info5
    go_enter Try.func3, Try.ntmps3
    go_wp2_with fail
    refine (awake_any _).mono ?_
    rintro e w1 ⟨rfl, hb1⟩
    have HB1 := Lib.hid hb1
    clear hb1
    go_wp2
    go_loopw [5, 6] (fun v i wr => ∃ (k m : Nat) (B : Option Addr) (d : Nat) (zs : List Int), (k : Int) ≤ t % 64 + 1 ∧ i = .int .i64 k ∧ m ≤ 300 * k ∧ v = .slice B m d ∧ Hid (Bytes zs) ∧ Hid (wr.ownsRow w.heap.size 5 1 (.slice B m d) m (zs.map (Value.int .u8))) ∧ Hid (Below w.heap.size w wr)) (fun _ i _ => 70 - (intOf i).toNat)
    case atStart => exact ⟨0, 0, none, 0, [], by simp; omega, rfl, Nat.le_refl _, rfl, fun x hx => by simp at hx, World.ownsRow_nil _ _ _ _, HB1⟩
    case round =>
      obtain ⟨k, m, B, d, zs, hk, rfl, hm, rfl, hZ, hO, hW⟩ := hrel
      clear HB1
      by_cases hlt : (k : Int) ≤ t % 64
      · go_wp2_with (at_builtin; refine wpList_append_list _ rfl (.tmp 19) (.tmp 20) 22 rfl w.heap.size 5 i0 (.int .u8 0) 1 1 Try.underlying22 hi hz0 hz1 hz2 rfl (by decide) _ m _ rfl hO.out _ A n c _ rfl (HL.out.below hW.out) oneCell_ints (by unfold maxLen; omega) (by omega) hW.out.size ?_)
        intro A3 c3 x3 hown3 hgrow3 hat3
        have HO3 := Lib.hid hown3
        have HW3 := Lib.hid (hW.out.grown hgrow3 hW.out.size (fun g e => (hO.out.lt g e).1))
        clear hown3 hgrow3 hat3
        go_wp2
        go_roundw
        case rel => exact ⟨k + 1, m + n, A3, c3, zs ++ ns, by omega, by go_num, by omega, rfl, fun x hx => by
            rcases List.mem_append.1 hx with hx | hx
            · exact hZ.out x hx
            · exact HB.out x hx, by rw [List.map_append]; exact HO3, HW3⟩
        case measure => simp [intOf]; omega
      · go_wp2_with fail
        refine (adler_any B m d zs _ _ (Lst.of_own hO.out) hZ.out (by omega)).mono ?_
        rintro e w2 ⟨rfl, rfl⟩
        have hrange : 0 ≤ adler zs ∧ adler zs < 4294967296 := by
          have := adl_bd zs
          unfold adler
          omega
        obtain ⟨r0, r1⟩ := hrange
        go_wp2_with fail
        refine (radler_any B m d zs _ _ (Lst.of_own hO.out) hZ.out (by omega)).mono ?_
        rintro e w2 ⟨rfl, rfl⟩
        generalize adler zs = R at *
        go_wp2
        go_ret
        exact ⟨rfl, hW.out⟩
end Go.Proofs.Ytaigobebkclijaa
