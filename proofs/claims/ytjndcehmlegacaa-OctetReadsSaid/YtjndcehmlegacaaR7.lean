/- OctetReads. -/
import Derived.Test.YtjndcehmlegacaaR6
import Derived.Test.YtjndcehmlegacaaTri
namespace Go.Proofs.Ytjndcehmlegacaa
open Go.RowKit

theorem own_cap {w : World} {base : Nat} {e : TypeId} {size n c : Nat} {A : Option Addr} {xs : List Value} (h : w.ownsRow base e size (.slice A n c) n xs) : n ≤ c ∧ c ≤ 9223372036854775807 := by
  rcases h.2 with ⟨h1, h2⟩ | ⟨g, cap, cur, h1, _, _, h2, h3, _⟩
  · injection h1 with _ _ h1
    omega
  · injection h1 with _ _ h1
    unfold maxLen at h3
    omega
def OverP (w : World) (n : Nat) (bs : List UInt8) (e : Ending) (w' : World) : Prop :=
  ∃ A2 c2 g, e = .returned (.pointer (some ⟨g, 0, none⟩)) ∧ w.heap.size ≤ g ∧ Rdr w' g A2 n c2 bs 0 ∧ n ≤ c2 ∧ c2 ≤ 9223372036854775807 ∧ Below w.heap.size w w'
theorem over_any (A : Option Addr) (n c : Nat) (bs : List UInt8) (S : Nat → Prop) (w : World) (hB : Bs w S A n bs) (hn : n ≤ 1000) : Calls Try.prog 17 #[.slice A n c] w (OverP w n bs) := by
  have HC := Lib.hid (clone_any A n c bs S w hB (by omega))
  clear hB
  go_enter Try.func17, Try.ntmps17
  go_wp2_with fail
  refine HC.out.mono ?_
  rintro e w2 ⟨A2, c2, rfl, ho, hb⟩
  have hcap := own_cap ho
  have HB := Lib.hid (((Bs.of_own ho).and_lt).mono fun b (hb : w.heap.size ≤ b ∧ b < w2.heap.size) => show b ≠ w2.heap.size by omega)
  have HW := Lib.hid hb
  clear ho hb HC
  go_wp2
  go_ret
  exact ⟨A2, c2, w2.heap.size, rfl, HW.out.size, ⟨Whole.new w2 55 _ rfl, HB.out.alloc _⟩, hcap.1, hcap.2, HW.out.alloc HW.out.size _⟩
end Go.Proofs.Ytjndcehmlegacaa
