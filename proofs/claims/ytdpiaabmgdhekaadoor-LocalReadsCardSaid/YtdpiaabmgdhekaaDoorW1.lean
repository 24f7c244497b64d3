/- The page's numbers out of bytes. -/
import Derived.Test.YtdpiaabmgdhekaaDoorG1
import Derived.IntWalk
namespace Go.Proofs.YtdpiaabmgdhekaaDoor
open Go.RowKit

theorem bs_add {w : World} {S : Nat → Prop} {A : Option Addr} {n : Nat} {bs : List UInt8} (h : Bs w S A n bs) {k : Nat} (hk : k ≤ n) : Bs w S (A.map (fun x => x.add k)) (n - k) (bs.drop k) := by
  by_cases hz : n - k = 0
  · rw [hz, List.drop_eq_nil_of_le (by rw [h.len]; omega)]
    exact Bs.empty _ _ _
  · obtain ⟨b, off, rfl, _⟩ := h.2 (by omega)
    have h2 := h.drop hk
    rw [Option.map_some, addr_add]
    exact h2
set_option maxRecDepth 100000 in
set_option maxHeartbeats 8000000 in
set_option maxRecDepth 100000 in
theorem rnum_any (A : Option Addr) (n c : Nat) (bs : List UInt8) (S : Nat → Prop) (at' k V : Nat) (w : World) (hB : Bs w S A n bs) (h : at' + k ≤ n) (hk : 1 ≤ k) (hk8 : k ≤ 8) (hn : n ≤ 1000) (hnc : n ≤ c) (hv : num ((bs.drop at').take k) = V) (hV : V < 9223372036854775808) :
    Calls Tryd.prog 34 #[.slice A n c, .int .i64 (at' : Nat), .int .i64 (k : Nat)] w fun e w' => e = .returned (.int .i64 (V : Nat)) ∧ w = w' := by
  obtain ⟨M, hM⟩ : ∃ M, at' + k = M := ⟨_, rfl⟩
  have hMk : M - at' = k := by omega
  have HN := Lib.hid (number_any (A.map (fun x => x.add at')) k (c - at') ((bs.drop at').take k) S w ((bs_add hB (by omega)).take (by omega)) hk8)
  rw [hv] at HN
  have d0 : IntKind.i64.wrap ((at' : Int) + (k : Int)) = (M : Int) := by rw [IntWalk.i64_in _ (by omega)]; omega
  have d1 : decide ((n : Int) < (M : Int)) = false := decide_eq_false (by omega)
  have d1' : decide (n < M) = false := decide_eq_false (by omega)
  have i1 : (M : Int) ≤ (c : Int) := by omega
  have i2 : (at' : Int) ≤ (M : Int) := by omega
  have hca : c ≠ at' := by omega
  have kv : IntKind.i64.wrap (V : Int) = (V : Int) := IntWalk.i64_in _ (by omega)
  have hMr : (at' : Int) + (k : Int) = (M : Int) := by omega
  clear hB hv
  go_enter Tryd.func34, Tryd.ntmps34
  go_wp2_with fail
  refine HN.out.mono ?_
  rintro e w1 ⟨rfl, rfl⟩
  go_wp2
  go_ret
  exact ⟨rfl, rfl⟩
end Go.Proofs.YtdpiaabmgdhekaaDoor
