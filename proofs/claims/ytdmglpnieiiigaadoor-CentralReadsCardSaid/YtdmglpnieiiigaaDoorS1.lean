/- Strings. -/
import Derived.Test.YtdmglpnieiiigaaDoorShelf
import Derived.Test.YtdmglpnieiiigaaDoorBlk
import Derived.Test.YtdmglpnieiiigaaDoorOver
import Derived.LoopTactic
import Derived.IntWalk
import Derived.Lib.Hide
import Derived.DataElems
namespace Go.Proofs.YtdmglpnieiiigaaDoor
open Go.RowKit

/-- what the text's functions lean on: the two tables of utf8, the greatest length that is searched at once -/
def Env (w : World) : Prop := Lib.Utf8Tabs 0 1 w ∧ ∃ m : Int, w.cell? ⟨2, 0, none⟩ = some (.int .i64 m)
theorem Env.below {w w' : World} (h : Env w) (hb : Below w.heap.size w w') : Env w' := by
  obtain ⟨h1, m, h2⟩ := h
  exact ⟨Utf8Tabs_below h1 hb, m, (hb.cell (World.block_lt_of_cell? w _ h2)).trans h2⟩
def ascii (s : ByteArray) : Bool := s.data.toList.all fun b => decide (b.toNat ≤ 126)
def asciiTo (s : ByteArray) (k : Nat) : Bool := (s.data.toList.take k).all fun b => decide (b.toNat ≤ 126)
theorem take_all (p : UInt8 → Bool) (s : ByteArray) (k : Nat) (h : k < s.size) : (s.data.toList.take (k + 1)).all p = ((s.data.toList.take k).all p && p (s[k]'h)) := by
  have hk : k < s.data.toList.length := by simpa using h
  rw [List.take_succ_eq_append_getElem hk, List.all_append]
  congr 1
  simp only [List.all_cons, List.all_nil, Bool.and_true]
  rfl
theorem all_full (p : UInt8 → Bool) (s : ByteArray) : (s.data.toList.take s.size).all p = s.data.toList.all p := by
  have h : s.size = s.data.toList.length := by simp
  rw [h, List.take_length]
theorem all_not (p : UInt8 → Bool) (s : ByteArray) (k : Nat) (h : k < s.size) (hp : p (s[k]'h) = false) : s.data.toList.all p = false := by
  rw [List.all_eq_false]
  exact ⟨s[k]'h, by rw [show s[k]'h = s.data.toList[k]'(by simpa using h) from rfl]; exact List.getElem_mem _, by simp [hp]⟩

set_option maxHeartbeats 1000000 in
theorem ascii_any (s : ByteArray) (w : World) (hs : s.size < 9223372036854775807) :
    Calls Tryd.prog 49 #[.string s] w fun e w' => e = .returned (.bool (ascii s)) ∧ w = w' := by
  have HS := Lib.hid hs
  go_enter Tryd.func49, Tryd.ntmps49
  go_wp2
  go_loop [6] (fun i => ∃ k : Nat, k ≤ s.size ∧ i = .int .i64 k ∧ (s.data.toList.take k).all (fun b => decide (b.toNat ≤ 126)) = true) (fun i => s.size - (intOf i).toNat)
  case atStart => exact ⟨0, Nat.zero_le _, rfl, by simp⟩
  case round =>
    obtain ⟨k, hk, rfl, hq⟩ := hrel
    have HQ := Lib.hid hq
    clear hq
    by_cases hlt : k < s.size
    · have h1 : (0 : Int) ≤ (k : Int) := by omega
      have h2 : (k : Int) < (s.size : Int) := by omega
      have h3 : ((k : Int)).toNat = k := by omega
      obtain ⟨b, hb⟩ : ∃ b, s[k]'hlt = b := ⟨_, rfl⟩
      have HB := Lib.hid hb
      by_cases hc : b.toNat ≤ 126
      · have d1 : decide ((126 : Int) < ((b.toNat : Nat) : Int)) = false := by simp; omega
        go_wp2
        refine ⟨⟨k + 1, by omega, by simp, ?_⟩, by simp only [intOf]; omega⟩
        rw [take_all _ s k hlt, HQ.out, HB.out]
        simpa using hc
      · have d1 : decide ((126 : Int) < ((b.toNat : Nat) : Int)) = true := by simp; omega
        go_wp2
        go_ret
        refine ⟨?_, rfl⟩
        have e : ascii s = false := all_not _ s k hlt (by rw [HB.out]; simpa using hc)
        rw [e]; rfl
    · have h2 : ¬ (k : Int) < (s.size : Int) := by omega
      go_wp2
      go_ret
      refine ⟨?_, rfl⟩
      have e : ascii s = true := by
        have hk' : k = s.size := by omega
        subst hk'
        unfold ascii
        rw [← all_full]; exact HQ.out
      rw [e]; rfl
theorem utf8_any (s : ByteArray) (w : World) (hs : s.size < 9223372036854775807) (hE : Env w) :
    Calls Tryd.prog 61 #[.string s] w fun e w' => e = .returned (.bool (Lib.validD s.data.toList)) ∧ Below w.heap.size w w' := by
  go_enter Tryd.func61, Tryd.ntmps61
  go_wp2_with fail
  refine (Tryd.utf8_ValidString s w (by omega) hE.1).mono ?_
  rintro e w1 ⟨rfl, hb⟩
  go_wp2
  go_ret
  exact ⟨rfl, hb⟩
def slash : ByteArray := ⟨#[47]⟩
def parts (s : ByteArray) : List ByteArray := Lib.splitB slash 0 (Lib.countB s slash) s
theorem parts_any (s : ByteArray) (w : World) (hs : s.size < 4294967281) (hE : Env w) :
    Calls Tryd.prog 62 #[.string s] w fun e w' => e = .returned (.slice (some ⟨w.heap.size, 0, none⟩) (Lib.countB s slash + 1) (Lib.countB s slash + 1)) ∧ w' = w.alloc (.cells ((parts s).map Value.string).toArray 9) := by
  obtain ⟨_, m, hm⟩ := hE
  go_enter Tryd.func62, Tryd.ntmps62
  go_wp2_with fail
  refine (Tryd.strings_Split s slash m w hs hm (by decide)).mono ?_
  rintro e w1 ⟨rfl, rfl⟩
  go_wp2
  go_ret
  exact ⟨rfl, rfl⟩
end Go.Proofs.YtdmglpnieiiigaaDoor
