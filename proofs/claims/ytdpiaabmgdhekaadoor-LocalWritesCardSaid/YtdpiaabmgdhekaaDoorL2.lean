/- The law of writing, of every header. -/
import Derived.Test.YtdpiaabmgdhekaaDoorL1
namespace Go.Proofs.YtdpiaabmgdhekaaDoor
open Go.RowKit

theorem writes_any (s : ByteArray) (y mo d h mi se me : Int) (c : Nat) (p z : Int) (wd lt : Bool) (w : World) (hE : Env w) (hc : c < 4294967296) : Calls Tryd.prog 3 #[.agg #[.string s, .int .i64 y, .int .i64 mo, .int .i64 d, .int .i64 h, .int .i64 mi, .int .i64 se, .int .i64 me, .int .u32 (c : Nat), .int .i64 p, .int .i64 z, .bool wd, .bool lt]] w fun e w' => e = .returned (.bool true) ∧ Below w.heap.size w w' := by
  by_cases hs : s.size ≤ 1000
  · by_cases hk : codeH s (rightB y mo d h mi se) me p z = 0
    · obtain ⟨_, _, h3, h4, _, h6, _⟩ := codeH_zero hk
      obtain ⟨m, rfl⟩ : ∃ m : Nat, me = m := ⟨me.toNat, by omega⟩
      obtain ⟨q, rfl⟩ : ∃ q : Nat, p = q := ⟨p.toNat, by omega⟩
      obtain ⟨x, rfl⟩ : ∃ x : Nat, z = x := ⟨z.toNat, by omega⟩
      exact writes_good s y mo d h mi se m c q x wd lt w hE hs hc hk
    · exact writes_bad s y mo d h mi se me c p z wd lt w hE hs (by simpa using hk)
  · exact writes_long s y mo d h mi se me c p z wd lt w hE (by omega)
end Go.Proofs.YtdpiaabmgdhekaaDoor
