/- Little-endian integers: bytes with others at a place; the page's example. -/
import Derived.Test.YtjndcehmlegacaaW5
namespace Go.Proofs.Ytjndcehmlegacaa
open Go.RowKit

theorem firm_bs {S : Nat → Prop} {A : Option Addr} {n : Nat} {bs : List UInt8} : Firm fun w => Bs w S A n bs := fun _ _ h he => Bs.below h he
/-- A slice of bytes in memory of the call's own. -/
def RetBs (w : World) (n : Nat) (bs : List UInt8) (e : Ending) (w' : World) : Prop := ∃ A c, e = .returned (.slice A n c) ∧ Bs w' (fun b => w.heap.size ≤ b) A n bs ∧ Below w.heap.size w w'
set_option maxHeartbeats 1000000 in
theorem rput_any (A B : Option Addr) (n m c d p : Nat) (bs xs : List UInt8) (S R : Nat → Prop) (w : World) (hA : Bs w S A n bs) (hB : Bs w R B m xs) (hc : n ≤ c) (hcc : c ≤ 9223372036854775807) (hp : p + m ≤ n) (hm : 0 < m) (hn : n ≤ 70368744177664) :
    Calls Try.prog 16 #[.slice A n c, .int .i64 p, .slice B m d] w (RetBs w n (overB bs p xs)) := by
  have hl := hA.len
  have hm' := hB.len
  obtain ⟨ab, ao, rfl, _, _⟩ := hA.2 (by omega)
  have HA := Lib.hid hA
  have HB := Lib.hid hB
  clear hA hB
  have r1 : (0 : Int) ≤ p := by omega
  have r2 : (p : Int) ≤ c := by omega
  have r3 : (p : Int) + m ≤ n := by omega
  have r4 : (n : Int) ≤ c := by omega
  go_enter Try.func16, Try.ntmps16
  go_wp2
  refine wp_region_free (by kernel_rfl) (by kernel_rfl) (by kernel_rfl) ?_
  iterate 4 (refine free_hard rfl rfl ?_; intro K hK; go_big_quiet_op; go_big_quiet_on)
  refine free_soft (ι := Option Addr × Nat) (fun i => .slice i.1 (p + m) i.2) (fun i w' => Bs w' (fun b => w.heap.size ≤ b) i.1 (p + m) (bs.take p ++ xs)) rfl rfl rfl (fun _ => firm_bs) (fun w' hw' => ?_) (fun i => ?_)
  · have hb := hw'.1.below
    go_simp
    refine (join_any _ _ _ _ _ _ _ _ _ _ w' ((HA.out.below hb).take (by omega)) (HB.out.below hb) (by omega)).mono ?_
    rintro e w2 ⟨A', c', rfl, ho, hb2⟩
    exact ⟨hb2, (A', c'), rfl, (Bs.of_own ho).mono fun b h => by have := hb.size; omega⟩
  obtain ⟨A', c'⟩ := i
  dsimp only
  intro K hK
  go_big_quiet_op
  go_big_quiet_on
  iterate 6 (refine free_hard rfl rfl ?_; intro K hK; go_big_quiet_op; go_big_quiet_on)
  refine free_soft (ι := Option Addr × Nat) (fun i => .slice i.1 n i.2) (fun i w' => Bs w' (fun b => w.heap.size ≤ b) i.1 n (overB bs p xs)) rfl rfl rfl (fun _ => firm_bs) (fun w' hw' => ?_) (fun i => ?_)
  · have hb := hw'.1.below
    have h1 : Bs w' (fun b => w.heap.size ≤ b) A' (p + m) (bs.take p ++ xs) := (hw'.2 4 (by kernel_rfl)).1
    have HW := Lib.hid hw'
    clear hw'
    go_simp
    refine (join_any _ _ _ _ _ _ _ _ _ _ w' h1 ((HA.out.below hb).cut (k := p + m) (c := c) hp hc) (by omega)).mono ?_
    rintro e w2 ⟨A', c', rfl, ho, hb2⟩
    rw [show p + m + (n - (p + m)) = n by omega] at ho ⊢
    have e : bs.take p ++ xs ++ bs.drop (p + m) = overB bs p xs := by unfold overB; rw [hm']
    rw [e] at ho
    exact ⟨hb2, (A', c'), rfl, (Bs.of_own ho).mono fun b h => by have := hb.size; omega⟩
  obtain ⟨A2, c2⟩ := i
  dsimp only
  intro K hK
  go_big_quiet_op
  go_big_quiet_on
  refine free_hard rfl rfl ?_
  intro K hK
  go_big_quiet_op
  go_big_quiet_on
  refine free_nil ?_
  intro w3 hb3 hk
  have h3 : Bs w3 (fun b => w.heap.size ≤ b) A2 n (overB bs p xs) := (hk 11).1
  have H3 := Lib.hid h3
  have HB3 := Lib.hid hb3
  clear h3 hb3 hk
  go_wp2
  all_goals
    go_ret
    exact ⟨A2, c2, rfl, H3.out, HB3.out⟩
end Go.Proofs.Ytjndcehmlegacaa
