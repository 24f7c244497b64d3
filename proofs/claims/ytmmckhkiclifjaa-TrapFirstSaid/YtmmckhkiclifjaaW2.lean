/- TrapMust: what Must and Check do, and what Try hands back. -/
import Derived.Test.YtmmckhkiclifjaaW1
import Derived.Laws.BitsAllLaws
namespace Go.Proofs.Ytmmckhkiclifjaa
open Go.RowKit

theorem call_ret (k : FuncId) (caps : Array Value) (w : World) (Q : World → Prop) (hcf : ∀ w, (callFunc k caps).run Try.prog w = .ok (.enter k caps) w)
    (h : Calls Try.prog k caps w fun e w' => e = .returned (.tuple #[]) ∧ Q w') : Calls Try.prog 31 #[.func (.func k) #[] caps] w fun e w' => e = .returned (.tuple #[]) ∧ Q w' := by
  have hne : ∀ w, (binOp .neq 1 (.func (.func k) #[] caps) .nilFunc).run Try.prog w = .ok (.bool true) w := fun _ => rfl
  have H := Lib.hid h
  clear h
  go_enter Try.func31, Try.ntmps31
  go_wp2_with fail
  refine H.out.mono ?_
  rintro e w1 ⟨rfl, hQ⟩
  have HQ := Lib.hid hQ
  clear hQ
  go_wp2
  go_end0
  exact ⟨rfl, HQ.out⟩
theorem call_throw (k : FuncId) (caps : Array Value) (ch : List PanicEntry) (w : World) (Q : World → Prop) (hcf : ∀ w, (callFunc k caps).run Try.prog w = .ok (.enter k caps) w)
    (h : Calls Try.prog k caps w fun e w' => e = .panicked ch ∧ Q w') : Calls Try.prog 31 #[.func (.func k) #[] caps] w fun e w' => e = .panicked ch ∧ Q w' := by
  have hne : ∀ w, (binOp .neq 1 (.func (.func k) #[] caps) .nilFunc).run Try.prog w = .ok (.bool true) w := fun _ => rfl
  have H := Lib.hid h
  clear h
  go_enter Try.func31, Try.ntmps31
  go_wp2_with fail
  refine H.out.mono ?_
  rintro e w1 ⟨rfl, hQ⟩
  have HQ := Lib.hid hQ
  clear hQ
  go_wp2
  simp [bodyPost]
  exact HQ.out
theorem check_true (c : Int) (w : World) : Calls Try.prog 19 #[.bool true, .int .i64 c] w fun e w' => e = .returned (.tuple #[]) ∧ w = w' := by
  go_enter Try.func19, Try.ntmps19
  go_wp2
  go_end0
  exact ⟨rfl, rfl⟩
theorem check_false (c : Int) (w : World) : Calls Try.prog 19 #[.bool false, .int .i64 c] w fun e w' => e = .panicked [{ v := fault c, recovered := false }] ∧ w = w' := by
  go_enter Try.func19, Try.ntmps19
  go_wp2_with fail
  refine (throw_any c _).mono ?_
  rintro e w1 ⟨rfl, rfl⟩
  go_wp2
  simp [bodyPost]
theorem must_ok (v : Int) (w : World) : Calls Try.prog 17 #[.int .u64 v, .int .i64 0] w fun e w' => e = .returned (.int .u64 v) ∧ w = w' := by
  go_enter Try.func17, Try.ntmps17
  go_wp2_with fail
  refine (check_true 0 _).mono ?_
  rintro e w1 ⟨rfl, rfl⟩
  go_wp2
  go_ret
  exact ⟨rfl, rfl⟩
theorem must_err (v c : Int) (hc : (c == 0) = false) (w : World) : Calls Try.prog 17 #[.int .u64 v, .int .i64 c] w fun e w' => e = .panicked [{ v := fault c, recovered := false }] ∧ w = w' := by
  go_enter Try.func17, Try.ntmps17
  go_wp2_with fail
  refine (check_false c _).mono ?_
  rintro e w1 ⟨rfl, rfl⟩
  go_wp2
  simp [bodyPost]
theorem and63 (e : Int) : 0 ≤ bits .and .i64 e 63 ∧ bits .and .i64 e 63 ≤ 63 := by
  show 0 ≤ IntKind.i64.wrap ((BitVec.ofInt 64 e &&& BitVec.ofInt 64 63).toNat : Int) ∧ IntKind.i64.wrap ((BitVec.ofInt 64 e &&& BitVec.ofInt 64 63).toNat : Int) ≤ 63
  have h : (BitVec.ofInt 64 e &&& BitVec.ofInt 64 63).toNat ≤ 63 := by
    rw [BitVec.toNat_and]
    exact Nat.and_le_right
  rw [IntWalk.i64_in _ (by omega)]
  omega
theorem code_any (n : Int) (w : World) : Calls Try.prog 20 #[.int .i64 n] w fun e w' => e = .returned (.int .i64 (1 + bits .and .i64 n 63)) ∧ w = w' := by
  have h := and63 n
  obtain ⟨m, hm⟩ : ∃ m, bits .and .i64 n 63 = m := ⟨_, rfl⟩
  rw [hm] at h ⊢
  obtain ⟨h0, h1⟩ := h
  go_enter Try.func20, Try.ntmps20
  go_wp2
  go_ret
  exact ⟨rfl, rfl⟩
theorem awake_any (w : World) : Calls Try.prog 7 #[] w fun e w' => e = .returned (.bool true) ∧ Below w.heap.size w w' := by
  have h28 : ∀ w : World, Calls Try.prog 28 #[] w fun e w' => e = .panicked [{ v := fault 3, recovered := false }] ∧ w = w' := fun w => by
    go_enter Try.func28, Try.ntmps28
    go_wp2_with fail
    refine (throw_any 3 _).mono ?_
    rintro e w1 ⟨rfl, rfl⟩
    go_wp2
    simp [bodyPost]
  have H28 := Lib.hid h28
  clear h28
  go_enter Try.func7, Try.ntmps7
  go_wp2_with fail
  refine (catch_throw _ 3 w (fun w' => Below w.heap.size w w') ((call_throw 28 #[] _ _ _ (fun _ => by kernel_rfl) ((H28.out _).mono ?_)))).mono ?_
  · rintro e w1 ⟨rfl, rfl⟩
    exact ⟨rfl, Whole.new w 27 #[.int .i64 0] rfl, (Below.refl _ _).alloc (Nat.le_refl _) _⟩
  rintro e w2 ⟨rfl, w1, hb, ha⟩
  have HB := Lib.hid (ha.below hb (Nat.le_refl _) hb.size)
  clear hb ha
  go_wp2
  go_ret
  exact ⟨rfl, HB.out⟩
end Go.Proofs.Ytmmckhkiclifjaa
