import Derived.Test.YtfjbjfebopabaaaW2
namespace Go.Proofs.Ytfjbjfebopabaaa
open Go.RowKit

abbrev tm (y mo d h mi s : Int) : Value := .agg #[.int .i64 y, .int .i64 mo, .int .i64 d, .int .i64 h, .int .i64 mi, .int .i64 s]
def cmpT (xs ys : List Int) : Int := orL (List.zipWith cmpI xs ys)
theorem heap_new (w : World) (o : Obj) (b : Nat) (h : b = w.heap.size) : (w.alloc o).heap[b]? = some o := by rw [h]; exact heap_alloc_new w o
theorem six_cells (b : Nat) (a0 a1 a2 a3 a4 a5 : Int) (w : World) (hb : w.heap[b]? = some (.cells #[.int .i64 a0, .int .i64 a1, .int .i64 a2, .int .i64 a3, .int .i64 a4, .int .i64 a5] 3 (0, 0))) (k : Nat) (hk : k < 6) :
    w.cell? ⟨b, k, none⟩ = some (.int .i64 ([a0, a1, a2, a3, a4, a5].getD k 0)) := by
  rw [cell_of_row w b k _ 3 (0, 0) hb]
  have h : k = 0 ∨ k = 1 ∨ k = 2 ∨ k = 3 ∨ k = 4 ∨ k = 5 := by omega
  rcases h with rfl | rfl | rfl | rfl | rfl | rfl <;> rfl
theorem or_six (b : Nat) (a0 a1 a2 a3 a4 a5 : Int) (w : World) (hb : w.heap[b]? = some (.cells #[.int .i64 a0, .int .i64 a1, .int .i64 a2, .int .i64 a3, .int .i64 a4, .int .i64 a5] 3 (0, 0))) :
    Calls Try.prog 20 #[.slice (some ⟨b, 0, none⟩) 6 6] w fun e w' => e = .returned (.int .i64 (orL [a0, a1, a2, a3, a4, a5])) ∧ w = w' :=
  or_any b [a0, a1, a2, a3, a4, a5] w (by simp) (fun k hk => six_cells b a0 a1 a2 a3 a4 a5 w hb k hk)
set_option maxHeartbeats 1000000 in
theorem compare_any (y mo d h mi s y' mo' d' h' mi' s' : Int) (w : World) :
    Calls Try.prog 15 #[tm y mo d h mi s, tm y' mo' d' h' mi' s'] w fun e w' => e = .returned (.int .i64 (cmpT [y, mo, d, h, mi, s] [y', mo', d', h', mi', s'])) ∧ Below w.heap.size w w' := by
  go_enter Try.func15, Try.ntmps15
  go_wp2
  refine wp_region_tail 30 (by kernel_rfl) (by kernel_rfl) ?_
  simp only [List.take_succ_cons, List.take_zero, List.drop_succ_cons, List.drop_zero]
  repeat (first | still_step | still_call (Calls.still_eq (cmp_any _ _ _)))
  refine wpStill_nil ?_
  go_wp2_with (go_at_call 20; refine (or_six _ _ _ _ _ _ _ _ (by exact heap_new _ _ _ (by simp))).mono ?_; rintro e w' ⟨rfl, rfl⟩)
  go_ret
  exact ⟨ret_int rfl, (((Below.refl _ _).alloc (Nat.le_refl _) _).alloc (by simp) _).drew.alloc (by simp; omega) _⟩
end Go.Proofs.Ytfjbjfebopabaaa
