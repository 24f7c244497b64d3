/- AlphaParts: the symbols of lengths and distances by the tables. -/
import Derived.Test.YtgncenladhempaaDoorW1
namespace Go.Proofs.YtgncenladhempaaDoor
open Go.RowKit

abbrev arr (l : List Int) : Array Value := (l.map (Value.int .i64)).toArray
theorem int_cell {w : World} {g : Nat} {l : List Int} (h : Whole w g 3 (arr l)) {k : Nat} (hk : k < l.length) : w.cell? ⟨g, k, none⟩ = some (.int .i64 (l.getD k 0)) := by
  rw [h.cell k]
  simp [hk, List.getD_eq_getElem?_getD]
/-- Which symbol a distance has, by the tables. -/
def distV (n : Int) : Value := if 1 ≤ n ∧ n ≤ 32768 then part (findN db n 30) (dx.getD (findN db n 30) 0) (n - db.getD (findN db n 30) 0) true else part 0 0 0 false
/-- Which symbol a length has, by the tables. -/
def lengthV (n : Int) : Value := if 3 ≤ n ∧ n ≤ 258 then part (257 + findN lb n 29) (lx.getD (findN lb n 29) 0) (n - lb.getD (findN lb n 29) 0) true else part 0 0 0 false
theorem tuple_part {a b c a' b' c' : Int} {x : Bool} (h1 : a = a') (h2 : b = b') (h3 : c = c') : part a b c x = part a' b' c' x := by rw [h1, h2, h3]
theorem dist_k0 (n : Int) (w : World) (h1 : 1 ≤ n) (h2 : n < 2) : Calls Tryd.prog 19 #[.int .i64 n] w fun e w' => e = .returned (distV n) ∧ Below w.heap.size w w' := by
  have hj : ∀ j, j < 30 → 0 < j → (2 : Int) ≤ db.getD j 0 := by decide
  have hk : findN db n 30 = 0 := findN_eq db n 0 (by show (1 : Int) ≤ n; omega) 30 (by omega) (fun j h1 h2 => by have := hj j h2 h1; omega)
  refine (dist_two n w (by omega) (by omega)).mono ?_
  rintro e w' ⟨rfl, hb⟩
  refine ⟨?_, hb⟩
  unfold distV
  rw [if_pos (by omega), hk]
  refine congrArg Ending.returned (tuple_part ?_ rfl ?_)
  · omega
  · show _ = n - (1 : Int)
    omega
theorem dist_k1 (n : Int) (w : World) (h1 : 2 ≤ n) (h2 : n < 3) : Calls Tryd.prog 19 #[.int .i64 n] w fun e w' => e = .returned (distV n) ∧ Below w.heap.size w w' := by
  have hj : ∀ j, j < 30 → 1 < j → (3 : Int) ≤ db.getD j 0 := by decide
  have hk : findN db n 30 = 1 := findN_eq db n 1 (by show (2 : Int) ≤ n; omega) 30 (by omega) (fun j h1 h2 => by have := hj j h2 h1; omega)
  refine (dist_two n w (by omega) (by omega)).mono ?_
  rintro e w' ⟨rfl, hb⟩
  refine ⟨?_, hb⟩
  unfold distV
  rw [if_pos (by omega), hk]
  refine congrArg Ending.returned (tuple_part ?_ rfl ?_)
  · omega
  · show _ = n - (2 : Int)
    omega
theorem dist_k2 (n : Int) (w : World) (h1 : 3 ≤ n) (h2 : n < 4) : Calls Tryd.prog 19 #[.int .i64 n] w fun e w' => e = .returned (distV n) ∧ Below w.heap.size w w' := by
  have hj : ∀ j, j < 30 → 2 < j → (4 : Int) ≤ db.getD j 0 := by decide
  have hk : findN db n 30 = 2 := findN_eq db n 2 (by show (3 : Int) ≤ n; omega) 30 (by omega) (fun j h1 h2 => by have := hj j h2 h1; omega)
  refine (dist_0 n w (by omega) (by omega)).mono ?_
  rintro e w' ⟨rfl, hb⟩
  refine ⟨?_, hb⟩
  unfold distV
  rw [if_pos (by omega), hk]
  refine congrArg Ending.returned (tuple_part ?_ rfl ?_)
  · omega
  · show _ = n - (3 : Int)
    omega
theorem dist_k3 (n : Int) (w : World) (h1 : 4 ≤ n) (h2 : n < 5) : Calls Tryd.prog 19 #[.int .i64 n] w fun e w' => e = .returned (distV n) ∧ Below w.heap.size w w' := by
  have hj : ∀ j, j < 30 → 3 < j → (5 : Int) ≤ db.getD j 0 := by decide
  have hk : findN db n 30 = 3 := findN_eq db n 3 (by show (4 : Int) ≤ n; omega) 30 (by omega) (fun j h1 h2 => by have := hj j h2 h1; omega)
  refine (dist_0 n w (by omega) (by omega)).mono ?_
  rintro e w' ⟨rfl, hb⟩
  refine ⟨?_, hb⟩
  unfold distV
  rw [if_pos (by omega), hk]
  refine congrArg Ending.returned (tuple_part ?_ rfl ?_)
  · omega
  · show _ = n - (4 : Int)
    omega
theorem dist_k4 (n : Int) (w : World) (h1 : 5 ≤ n) (h2 : n < 7) : Calls Tryd.prog 19 #[.int .i64 n] w fun e w' => e = .returned (distV n) ∧ Below w.heap.size w w' := by
  have hj : ∀ j, j < 30 → 4 < j → (7 : Int) ≤ db.getD j 0 := by decide
  have hk : findN db n 30 = 4 := findN_eq db n 4 (by show (5 : Int) ≤ n; omega) 30 (by omega) (fun j h1 h2 => by have := hj j h2 h1; omega)
  refine (dist_1 n w (by omega) (by omega)).mono ?_
  rintro e w' ⟨rfl, hb⟩
  refine ⟨?_, hb⟩
  unfold distV
  rw [if_pos (by omega), hk]
  refine congrArg Ending.returned (tuple_part ?_ rfl ?_)
  · omega
  · show _ = n - (5 : Int)
    omega
theorem dist_k5 (n : Int) (w : World) (h1 : 7 ≤ n) (h2 : n < 9) : Calls Tryd.prog 19 #[.int .i64 n] w fun e w' => e = .returned (distV n) ∧ Below w.heap.size w w' := by
  have hj : ∀ j, j < 30 → 5 < j → (9 : Int) ≤ db.getD j 0 := by decide
  have hk : findN db n 30 = 5 := findN_eq db n 5 (by show (7 : Int) ≤ n; omega) 30 (by omega) (fun j h1 h2 => by have := hj j h2 h1; omega)
  refine (dist_1 n w (by omega) (by omega)).mono ?_
  rintro e w' ⟨rfl, hb⟩
  refine ⟨?_, hb⟩
  unfold distV
  rw [if_pos (by omega), hk]
  refine congrArg Ending.returned (tuple_part ?_ rfl ?_)
  · omega
  · show _ = n - (7 : Int)
    omega
theorem dist_k6 (n : Int) (w : World) (h1 : 9 ≤ n) (h2 : n < 13) : Calls Tryd.prog 19 #[.int .i64 n] w fun e w' => e = .returned (distV n) ∧ Below w.heap.size w w' := by
  have hj : ∀ j, j < 30 → 6 < j → (13 : Int) ≤ db.getD j 0 := by decide
  have hk : findN db n 30 = 6 := findN_eq db n 6 (by show (9 : Int) ≤ n; omega) 30 (by omega) (fun j h1 h2 => by have := hj j h2 h1; omega)
  refine (dist_2 n w (by omega) (by omega)).mono ?_
  rintro e w' ⟨rfl, hb⟩
  refine ⟨?_, hb⟩
  unfold distV
  rw [if_pos (by omega), hk]
  refine congrArg Ending.returned (tuple_part ?_ rfl ?_)
  · omega
  · show _ = n - (9 : Int)
    omega
theorem dist_k7 (n : Int) (w : World) (h1 : 13 ≤ n) (h2 : n < 17) : Calls Tryd.prog 19 #[.int .i64 n] w fun e w' => e = .returned (distV n) ∧ Below w.heap.size w w' := by
  have hj : ∀ j, j < 30 → 7 < j → (17 : Int) ≤ db.getD j 0 := by decide
  have hk : findN db n 30 = 7 := findN_eq db n 7 (by show (13 : Int) ≤ n; omega) 30 (by omega) (fun j h1 h2 => by have := hj j h2 h1; omega)
  refine (dist_2 n w (by omega) (by omega)).mono ?_
  rintro e w' ⟨rfl, hb⟩
  refine ⟨?_, hb⟩
  unfold distV
  rw [if_pos (by omega), hk]
  refine congrArg Ending.returned (tuple_part ?_ rfl ?_)
  · omega
  · show _ = n - (13 : Int)
    omega
theorem dist_k8 (n : Int) (w : World) (h1 : 17 ≤ n) (h2 : n < 25) : Calls Tryd.prog 19 #[.int .i64 n] w fun e w' => e = .returned (distV n) ∧ Below w.heap.size w w' := by
  have hj : ∀ j, j < 30 → 8 < j → (25 : Int) ≤ db.getD j 0 := by decide
  have hk : findN db n 30 = 8 := findN_eq db n 8 (by show (17 : Int) ≤ n; omega) 30 (by omega) (fun j h1 h2 => by have := hj j h2 h1; omega)
  refine (dist_3 n w (by omega) (by omega)).mono ?_
  rintro e w' ⟨rfl, hb⟩
  refine ⟨?_, hb⟩
  unfold distV
  rw [if_pos (by omega), hk]
  refine congrArg Ending.returned (tuple_part ?_ rfl ?_)
  · omega
  · show _ = n - (17 : Int)
    omega
theorem dist_k9 (n : Int) (w : World) (h1 : 25 ≤ n) (h2 : n < 33) : Calls Tryd.prog 19 #[.int .i64 n] w fun e w' => e = .returned (distV n) ∧ Below w.heap.size w w' := by
  have hj : ∀ j, j < 30 → 9 < j → (33 : Int) ≤ db.getD j 0 := by decide
  have hk : findN db n 30 = 9 := findN_eq db n 9 (by show (25 : Int) ≤ n; omega) 30 (by omega) (fun j h1 h2 => by have := hj j h2 h1; omega)
  refine (dist_3 n w (by omega) (by omega)).mono ?_
  rintro e w' ⟨rfl, hb⟩
  refine ⟨?_, hb⟩
  unfold distV
  rw [if_pos (by omega), hk]
  refine congrArg Ending.returned (tuple_part ?_ rfl ?_)
  · omega
  · show _ = n - (25 : Int)
    omega
theorem dist_k10 (n : Int) (w : World) (h1 : 33 ≤ n) (h2 : n < 49) : Calls Tryd.prog 19 #[.int .i64 n] w fun e w' => e = .returned (distV n) ∧ Below w.heap.size w w' := by
  have hj : ∀ j, j < 30 → 10 < j → (49 : Int) ≤ db.getD j 0 := by decide
  have hk : findN db n 30 = 10 := findN_eq db n 10 (by show (33 : Int) ≤ n; omega) 30 (by omega) (fun j h1 h2 => by have := hj j h2 h1; omega)
  refine (dist_4 n w (by omega) (by omega)).mono ?_
  rintro e w' ⟨rfl, hb⟩
  refine ⟨?_, hb⟩
  unfold distV
  rw [if_pos (by omega), hk]
  refine congrArg Ending.returned (tuple_part ?_ rfl ?_)
  · omega
  · show _ = n - (33 : Int)
    omega
theorem dist_k11 (n : Int) (w : World) (h1 : 49 ≤ n) (h2 : n < 65) : Calls Tryd.prog 19 #[.int .i64 n] w fun e w' => e = .returned (distV n) ∧ Below w.heap.size w w' := by
  have hj : ∀ j, j < 30 → 11 < j → (65 : Int) ≤ db.getD j 0 := by decide
  have hk : findN db n 30 = 11 := findN_eq db n 11 (by show (49 : Int) ≤ n; omega) 30 (by omega) (fun j h1 h2 => by have := hj j h2 h1; omega)
  refine (dist_4 n w (by omega) (by omega)).mono ?_
  rintro e w' ⟨rfl, hb⟩
  refine ⟨?_, hb⟩
  unfold distV
  rw [if_pos (by omega), hk]
  refine congrArg Ending.returned (tuple_part ?_ rfl ?_)
  · omega
  · show _ = n - (49 : Int)
    omega
theorem dist_k12 (n : Int) (w : World) (h1 : 65 ≤ n) (h2 : n < 97) : Calls Tryd.prog 19 #[.int .i64 n] w fun e w' => e = .returned (distV n) ∧ Below w.heap.size w w' := by
  have hj : ∀ j, j < 30 → 12 < j → (97 : Int) ≤ db.getD j 0 := by decide
  have hk : findN db n 30 = 12 := findN_eq db n 12 (by show (65 : Int) ≤ n; omega) 30 (by omega) (fun j h1 h2 => by have := hj j h2 h1; omega)
  refine (dist_5 n w (by omega) (by omega)).mono ?_
  rintro e w' ⟨rfl, hb⟩
  refine ⟨?_, hb⟩
  unfold distV
  rw [if_pos (by omega), hk]
  refine congrArg Ending.returned (tuple_part ?_ rfl ?_)
  · omega
  · show _ = n - (65 : Int)
    omega
theorem dist_k13 (n : Int) (w : World) (h1 : 97 ≤ n) (h2 : n < 129) : Calls Tryd.prog 19 #[.int .i64 n] w fun e w' => e = .returned (distV n) ∧ Below w.heap.size w w' := by
  have hj : ∀ j, j < 30 → 13 < j → (129 : Int) ≤ db.getD j 0 := by decide
  have hk : findN db n 30 = 13 := findN_eq db n 13 (by show (97 : Int) ≤ n; omega) 30 (by omega) (fun j h1 h2 => by have := hj j h2 h1; omega)
  refine (dist_5 n w (by omega) (by omega)).mono ?_
  rintro e w' ⟨rfl, hb⟩
  refine ⟨?_, hb⟩
  unfold distV
  rw [if_pos (by omega), hk]
  refine congrArg Ending.returned (tuple_part ?_ rfl ?_)
  · omega
  · show _ = n - (97 : Int)
    omega
theorem dist_k14 (n : Int) (w : World) (h1 : 129 ≤ n) (h2 : n < 193) : Calls Tryd.prog 19 #[.int .i64 n] w fun e w' => e = .returned (distV n) ∧ Below w.heap.size w w' := by
  have hj : ∀ j, j < 30 → 14 < j → (193 : Int) ≤ db.getD j 0 := by decide
  have hk : findN db n 30 = 14 := findN_eq db n 14 (by show (129 : Int) ≤ n; omega) 30 (by omega) (fun j h1 h2 => by have := hj j h2 h1; omega)
  refine (dist_6 n w (by omega) (by omega)).mono ?_
  rintro e w' ⟨rfl, hb⟩
  refine ⟨?_, hb⟩
  unfold distV
  rw [if_pos (by omega), hk]
  refine congrArg Ending.returned (tuple_part ?_ rfl ?_)
  · omega
  · show _ = n - (129 : Int)
    omega
theorem dist_k15 (n : Int) (w : World) (h1 : 193 ≤ n) (h2 : n < 257) : Calls Tryd.prog 19 #[.int .i64 n] w fun e w' => e = .returned (distV n) ∧ Below w.heap.size w w' := by
  have hj : ∀ j, j < 30 → 15 < j → (257 : Int) ≤ db.getD j 0 := by decide
  have hk : findN db n 30 = 15 := findN_eq db n 15 (by show (193 : Int) ≤ n; omega) 30 (by omega) (fun j h1 h2 => by have := hj j h2 h1; omega)
  refine (dist_6 n w (by omega) (by omega)).mono ?_
  rintro e w' ⟨rfl, hb⟩
  refine ⟨?_, hb⟩
  unfold distV
  rw [if_pos (by omega), hk]
  refine congrArg Ending.returned (tuple_part ?_ rfl ?_)
  · omega
  · show _ = n - (193 : Int)
    omega
theorem dist_k16 (n : Int) (w : World) (h1 : 257 ≤ n) (h2 : n < 385) : Calls Tryd.prog 19 #[.int .i64 n] w fun e w' => e = .returned (distV n) ∧ Below w.heap.size w w' := by
  have hj : ∀ j, j < 30 → 16 < j → (385 : Int) ≤ db.getD j 0 := by decide
  have hk : findN db n 30 = 16 := findN_eq db n 16 (by show (257 : Int) ≤ n; omega) 30 (by omega) (fun j h1 h2 => by have := hj j h2 h1; omega)
  refine (dist_7 n w (by omega) (by omega)).mono ?_
  rintro e w' ⟨rfl, hb⟩
  refine ⟨?_, hb⟩
  unfold distV
  rw [if_pos (by omega), hk]
  refine congrArg Ending.returned (tuple_part ?_ rfl ?_)
  · omega
  · show _ = n - (257 : Int)
    omega
theorem dist_k17 (n : Int) (w : World) (h1 : 385 ≤ n) (h2 : n < 513) : Calls Tryd.prog 19 #[.int .i64 n] w fun e w' => e = .returned (distV n) ∧ Below w.heap.size w w' := by
  have hj : ∀ j, j < 30 → 17 < j → (513 : Int) ≤ db.getD j 0 := by decide
  have hk : findN db n 30 = 17 := findN_eq db n 17 (by show (385 : Int) ≤ n; omega) 30 (by omega) (fun j h1 h2 => by have := hj j h2 h1; omega)
  refine (dist_7 n w (by omega) (by omega)).mono ?_
  rintro e w' ⟨rfl, hb⟩
  refine ⟨?_, hb⟩
  unfold distV
  rw [if_pos (by omega), hk]
  refine congrArg Ending.returned (tuple_part ?_ rfl ?_)
  · omega
  · show _ = n - (385 : Int)
    omega
theorem dist_k18 (n : Int) (w : World) (h1 : 513 ≤ n) (h2 : n < 769) : Calls Tryd.prog 19 #[.int .i64 n] w fun e w' => e = .returned (distV n) ∧ Below w.heap.size w w' := by
  have hj : ∀ j, j < 30 → 18 < j → (769 : Int) ≤ db.getD j 0 := by decide
  have hk : findN db n 30 = 18 := findN_eq db n 18 (by show (513 : Int) ≤ n; omega) 30 (by omega) (fun j h1 h2 => by have := hj j h2 h1; omega)
  refine (dist_8 n w (by omega) (by omega)).mono ?_
  rintro e w' ⟨rfl, hb⟩
  refine ⟨?_, hb⟩
  unfold distV
  rw [if_pos (by omega), hk]
  refine congrArg Ending.returned (tuple_part ?_ rfl ?_)
  · omega
  · show _ = n - (513 : Int)
    omega
theorem dist_k19 (n : Int) (w : World) (h1 : 769 ≤ n) (h2 : n < 1025) : Calls Tryd.prog 19 #[.int .i64 n] w fun e w' => e = .returned (distV n) ∧ Below w.heap.size w w' := by
  have hj : ∀ j, j < 30 → 19 < j → (1025 : Int) ≤ db.getD j 0 := by decide
  have hk : findN db n 30 = 19 := findN_eq db n 19 (by show (769 : Int) ≤ n; omega) 30 (by omega) (fun j h1 h2 => by have := hj j h2 h1; omega)
  refine (dist_8 n w (by omega) (by omega)).mono ?_
  rintro e w' ⟨rfl, hb⟩
  refine ⟨?_, hb⟩
  unfold distV
  rw [if_pos (by omega), hk]
  refine congrArg Ending.returned (tuple_part ?_ rfl ?_)
  · omega
  · show _ = n - (769 : Int)
    omega
theorem dist_k20 (n : Int) (w : World) (h1 : 1025 ≤ n) (h2 : n < 1537) : Calls Tryd.prog 19 #[.int .i64 n] w fun e w' => e = .returned (distV n) ∧ Below w.heap.size w w' := by
  have hj : ∀ j, j < 30 → 20 < j → (1537 : Int) ≤ db.getD j 0 := by decide
  have hk : findN db n 30 = 20 := findN_eq db n 20 (by show (1025 : Int) ≤ n; omega) 30 (by omega) (fun j h1 h2 => by have := hj j h2 h1; omega)
  refine (dist_9 n w (by omega) (by omega)).mono ?_
  rintro e w' ⟨rfl, hb⟩
  refine ⟨?_, hb⟩
  unfold distV
  rw [if_pos (by omega), hk]
  refine congrArg Ending.returned (tuple_part ?_ rfl ?_)
  · omega
  · show _ = n - (1025 : Int)
    omega
theorem dist_k21 (n : Int) (w : World) (h1 : 1537 ≤ n) (h2 : n < 2049) : Calls Tryd.prog 19 #[.int .i64 n] w fun e w' => e = .returned (distV n) ∧ Below w.heap.size w w' := by
  have hj : ∀ j, j < 30 → 21 < j → (2049 : Int) ≤ db.getD j 0 := by decide
  have hk : findN db n 30 = 21 := findN_eq db n 21 (by show (1537 : Int) ≤ n; omega) 30 (by omega) (fun j h1 h2 => by have := hj j h2 h1; omega)
  refine (dist_9 n w (by omega) (by omega)).mono ?_
  rintro e w' ⟨rfl, hb⟩
  refine ⟨?_, hb⟩
  unfold distV
  rw [if_pos (by omega), hk]
  refine congrArg Ending.returned (tuple_part ?_ rfl ?_)
  · omega
  · show _ = n - (1537 : Int)
    omega
theorem dist_k22 (n : Int) (w : World) (h1 : 2049 ≤ n) (h2 : n < 3073) : Calls Tryd.prog 19 #[.int .i64 n] w fun e w' => e = .returned (distV n) ∧ Below w.heap.size w w' := by
  have hj : ∀ j, j < 30 → 22 < j → (3073 : Int) ≤ db.getD j 0 := by decide
  have hk : findN db n 30 = 22 := findN_eq db n 22 (by show (2049 : Int) ≤ n; omega) 30 (by omega) (fun j h1 h2 => by have := hj j h2 h1; omega)
  refine (dist_10 n w (by omega) (by omega)).mono ?_
  rintro e w' ⟨rfl, hb⟩
  refine ⟨?_, hb⟩
  unfold distV
  rw [if_pos (by omega), hk]
  refine congrArg Ending.returned (tuple_part ?_ rfl ?_)
  · omega
  · show _ = n - (2049 : Int)
    omega
theorem dist_k23 (n : Int) (w : World) (h1 : 3073 ≤ n) (h2 : n < 4097) : Calls Tryd.prog 19 #[.int .i64 n] w fun e w' => e = .returned (distV n) ∧ Below w.heap.size w w' := by
  have hj : ∀ j, j < 30 → 23 < j → (4097 : Int) ≤ db.getD j 0 := by decide
  have hk : findN db n 30 = 23 := findN_eq db n 23 (by show (3073 : Int) ≤ n; omega) 30 (by omega) (fun j h1 h2 => by have := hj j h2 h1; omega)
  refine (dist_10 n w (by omega) (by omega)).mono ?_
  rintro e w' ⟨rfl, hb⟩
  refine ⟨?_, hb⟩
  unfold distV
  rw [if_pos (by omega), hk]
  refine congrArg Ending.returned (tuple_part ?_ rfl ?_)
  · omega
  · show _ = n - (3073 : Int)
    omega
theorem dist_k24 (n : Int) (w : World) (h1 : 4097 ≤ n) (h2 : n < 6145) : Calls Tryd.prog 19 #[.int .i64 n] w fun e w' => e = .returned (distV n) ∧ Below w.heap.size w w' := by
  have hj : ∀ j, j < 30 → 24 < j → (6145 : Int) ≤ db.getD j 0 := by decide
  have hk : findN db n 30 = 24 := findN_eq db n 24 (by show (4097 : Int) ≤ n; omega) 30 (by omega) (fun j h1 h2 => by have := hj j h2 h1; omega)
  refine (dist_11 n w (by omega) (by omega)).mono ?_
  rintro e w' ⟨rfl, hb⟩
  refine ⟨?_, hb⟩
  unfold distV
  rw [if_pos (by omega), hk]
  refine congrArg Ending.returned (tuple_part ?_ rfl ?_)
  · omega
  · show _ = n - (4097 : Int)
    omega
theorem dist_k25 (n : Int) (w : World) (h1 : 6145 ≤ n) (h2 : n < 8193) : Calls Tryd.prog 19 #[.int .i64 n] w fun e w' => e = .returned (distV n) ∧ Below w.heap.size w w' := by
  have hj : ∀ j, j < 30 → 25 < j → (8193 : Int) ≤ db.getD j 0 := by decide
  have hk : findN db n 30 = 25 := findN_eq db n 25 (by show (6145 : Int) ≤ n; omega) 30 (by omega) (fun j h1 h2 => by have := hj j h2 h1; omega)
  refine (dist_11 n w (by omega) (by omega)).mono ?_
  rintro e w' ⟨rfl, hb⟩
  refine ⟨?_, hb⟩
  unfold distV
  rw [if_pos (by omega), hk]
  refine congrArg Ending.returned (tuple_part ?_ rfl ?_)
  · omega
  · show _ = n - (6145 : Int)
    omega
theorem dist_k26 (n : Int) (w : World) (h1 : 8193 ≤ n) (h2 : n < 12289) : Calls Tryd.prog 19 #[.int .i64 n] w fun e w' => e = .returned (distV n) ∧ Below w.heap.size w w' := by
  have hj : ∀ j, j < 30 → 26 < j → (12289 : Int) ≤ db.getD j 0 := by decide
  have hk : findN db n 30 = 26 := findN_eq db n 26 (by show (8193 : Int) ≤ n; omega) 30 (by omega) (fun j h1 h2 => by have := hj j h2 h1; omega)
  refine (dist_12 n w (by omega) (by omega)).mono ?_
  rintro e w' ⟨rfl, hb⟩
  refine ⟨?_, hb⟩
  unfold distV
  rw [if_pos (by omega), hk]
  refine congrArg Ending.returned (tuple_part ?_ rfl ?_)
  · omega
  · show _ = n - (8193 : Int)
    omega
theorem dist_k27 (n : Int) (w : World) (h1 : 12289 ≤ n) (h2 : n < 16385) : Calls Tryd.prog 19 #[.int .i64 n] w fun e w' => e = .returned (distV n) ∧ Below w.heap.size w w' := by
  have hj : ∀ j, j < 30 → 27 < j → (16385 : Int) ≤ db.getD j 0 := by decide
  have hk : findN db n 30 = 27 := findN_eq db n 27 (by show (12289 : Int) ≤ n; omega) 30 (by omega) (fun j h1 h2 => by have := hj j h2 h1; omega)
  refine (dist_12 n w (by omega) (by omega)).mono ?_
  rintro e w' ⟨rfl, hb⟩
  refine ⟨?_, hb⟩
  unfold distV
  rw [if_pos (by omega), hk]
  refine congrArg Ending.returned (tuple_part ?_ rfl ?_)
  · omega
  · show _ = n - (12289 : Int)
    omega
theorem dist_k28 (n : Int) (w : World) (h1 : 16385 ≤ n) (h2 : n < 24577) : Calls Tryd.prog 19 #[.int .i64 n] w fun e w' => e = .returned (distV n) ∧ Below w.heap.size w w' := by
  have hj : ∀ j, j < 30 → 28 < j → (24577 : Int) ≤ db.getD j 0 := by decide
  have hk : findN db n 30 = 28 := findN_eq db n 28 (by show (16385 : Int) ≤ n; omega) 30 (by omega) (fun j h1 h2 => by have := hj j h2 h1; omega)
  refine (dist_13 n w (by omega) (by omega)).mono ?_
  rintro e w' ⟨rfl, hb⟩
  refine ⟨?_, hb⟩
  unfold distV
  rw [if_pos (by omega), hk]
  refine congrArg Ending.returned (tuple_part ?_ rfl ?_)
  · omega
  · show _ = n - (16385 : Int)
    omega
theorem dist_k29 (n : Int) (w : World) (h1 : 24577 ≤ n) (h2 : n < 32769) : Calls Tryd.prog 19 #[.int .i64 n] w fun e w' => e = .returned (distV n) ∧ Below w.heap.size w w' := by
  have hk : findN db n 30 = 29 := findN_eq db n 29 (by show (24577 : Int) ≤ n; omega) 30 (by omega) (fun j h1 h2 => by omega)
  refine (dist_13 n w (by omega) (by omega)).mono ?_
  rintro e w' ⟨rfl, hb⟩
  refine ⟨?_, hb⟩
  unfold distV
  rw [if_pos (by omega), hk]
  refine congrArg Ending.returned (tuple_part ?_ rfl ?_)
  · omega
  · show _ = n - (24577 : Int)
    omega
theorem length_k0 (n : Int) (w : World) (h1 : 3 ≤ n) (h2 : n < 4) : Calls Tryd.prog 18 #[.int .i64 n] w fun e w' => e = .returned (lengthV n) ∧ Below w.heap.size w w' := by
  have hj : ∀ j, j < 29 → 0 < j → (4 : Int) ≤ lb.getD j 0 := by decide
  have hk : findN lb n 29 = 0 := findN_eq lb n 0 (by show (3 : Int) ≤ n; omega) 29 (by omega) (fun j h1 h2 => by have := hj j h2 h1; omega)
  refine (length_few n w (by omega) (by omega)).mono ?_
  rintro e w' ⟨rfl, hb⟩
  refine ⟨?_, hb⟩
  unfold lengthV
  rw [if_pos (by omega), hk]
  refine congrArg Ending.returned (tuple_part ?_ rfl ?_)
  · omega
  · show _ = n - (3 : Int)
    omega
theorem length_k1 (n : Int) (w : World) (h1 : 4 ≤ n) (h2 : n < 5) : Calls Tryd.prog 18 #[.int .i64 n] w fun e w' => e = .returned (lengthV n) ∧ Below w.heap.size w w' := by
  have hj : ∀ j, j < 29 → 1 < j → (5 : Int) ≤ lb.getD j 0 := by decide
  have hk : findN lb n 29 = 1 := findN_eq lb n 1 (by show (4 : Int) ≤ n; omega) 29 (by omega) (fun j h1 h2 => by have := hj j h2 h1; omega)
  refine (length_few n w (by omega) (by omega)).mono ?_
  rintro e w' ⟨rfl, hb⟩
  refine ⟨?_, hb⟩
  unfold lengthV
  rw [if_pos (by omega), hk]
  refine congrArg Ending.returned (tuple_part ?_ rfl ?_)
  · omega
  · show _ = n - (4 : Int)
    omega
theorem length_k2 (n : Int) (w : World) (h1 : 5 ≤ n) (h2 : n < 6) : Calls Tryd.prog 18 #[.int .i64 n] w fun e w' => e = .returned (lengthV n) ∧ Below w.heap.size w w' := by
  have hj : ∀ j, j < 29 → 2 < j → (6 : Int) ≤ lb.getD j 0 := by decide
  have hk : findN lb n 29 = 2 := findN_eq lb n 2 (by show (5 : Int) ≤ n; omega) 29 (by omega) (fun j h1 h2 => by have := hj j h2 h1; omega)
  refine (length_few n w (by omega) (by omega)).mono ?_
  rintro e w' ⟨rfl, hb⟩
  refine ⟨?_, hb⟩
  unfold lengthV
  rw [if_pos (by omega), hk]
  refine congrArg Ending.returned (tuple_part ?_ rfl ?_)
  · omega
  · show _ = n - (5 : Int)
    omega
theorem length_k3 (n : Int) (w : World) (h1 : 6 ≤ n) (h2 : n < 7) : Calls Tryd.prog 18 #[.int .i64 n] w fun e w' => e = .returned (lengthV n) ∧ Below w.heap.size w w' := by
  have hj : ∀ j, j < 29 → 3 < j → (7 : Int) ≤ lb.getD j 0 := by decide
  have hk : findN lb n 29 = 3 := findN_eq lb n 3 (by show (6 : Int) ≤ n; omega) 29 (by omega) (fun j h1 h2 => by have := hj j h2 h1; omega)
  refine (length_few n w (by omega) (by omega)).mono ?_
  rintro e w' ⟨rfl, hb⟩
  refine ⟨?_, hb⟩
  unfold lengthV
  rw [if_pos (by omega), hk]
  refine congrArg Ending.returned (tuple_part ?_ rfl ?_)
  · omega
  · show _ = n - (6 : Int)
    omega
theorem length_k4 (n : Int) (w : World) (h1 : 7 ≤ n) (h2 : n < 8) : Calls Tryd.prog 18 #[.int .i64 n] w fun e w' => e = .returned (lengthV n) ∧ Below w.heap.size w w' := by
  have hj : ∀ j, j < 29 → 4 < j → (8 : Int) ≤ lb.getD j 0 := by decide
  have hk : findN lb n 29 = 4 := findN_eq lb n 4 (by show (7 : Int) ≤ n; omega) 29 (by omega) (fun j h1 h2 => by have := hj j h2 h1; omega)
  refine (length_0 n w (by omega) (by omega) (by omega)).mono ?_
  rintro e w' ⟨rfl, hb⟩
  refine ⟨?_, hb⟩
  unfold lengthV
  rw [if_pos (by omega), hk]
  refine congrArg Ending.returned (tuple_part ?_ rfl ?_)
  · omega
  · show _ = n - (7 : Int)
    omega
theorem length_k5 (n : Int) (w : World) (h1 : 8 ≤ n) (h2 : n < 9) : Calls Tryd.prog 18 #[.int .i64 n] w fun e w' => e = .returned (lengthV n) ∧ Below w.heap.size w w' := by
  have hj : ∀ j, j < 29 → 5 < j → (9 : Int) ≤ lb.getD j 0 := by decide
  have hk : findN lb n 29 = 5 := findN_eq lb n 5 (by show (8 : Int) ≤ n; omega) 29 (by omega) (fun j h1 h2 => by have := hj j h2 h1; omega)
  refine (length_0 n w (by omega) (by omega) (by omega)).mono ?_
  rintro e w' ⟨rfl, hb⟩
  refine ⟨?_, hb⟩
  unfold lengthV
  rw [if_pos (by omega), hk]
  refine congrArg Ending.returned (tuple_part ?_ rfl ?_)
  · omega
  · show _ = n - (8 : Int)
    omega
theorem length_k6 (n : Int) (w : World) (h1 : 9 ≤ n) (h2 : n < 10) : Calls Tryd.prog 18 #[.int .i64 n] w fun e w' => e = .returned (lengthV n) ∧ Below w.heap.size w w' := by
  have hj : ∀ j, j < 29 → 6 < j → (10 : Int) ≤ lb.getD j 0 := by decide
  have hk : findN lb n 29 = 6 := findN_eq lb n 6 (by show (9 : Int) ≤ n; omega) 29 (by omega) (fun j h1 h2 => by have := hj j h2 h1; omega)
  refine (length_0 n w (by omega) (by omega) (by omega)).mono ?_
  rintro e w' ⟨rfl, hb⟩
  refine ⟨?_, hb⟩
  unfold lengthV
  rw [if_pos (by omega), hk]
  refine congrArg Ending.returned (tuple_part ?_ rfl ?_)
  · omega
  · show _ = n - (9 : Int)
    omega
theorem length_k7 (n : Int) (w : World) (h1 : 10 ≤ n) (h2 : n < 11) : Calls Tryd.prog 18 #[.int .i64 n] w fun e w' => e = .returned (lengthV n) ∧ Below w.heap.size w w' := by
  have hj : ∀ j, j < 29 → 7 < j → (11 : Int) ≤ lb.getD j 0 := by decide
  have hk : findN lb n 29 = 7 := findN_eq lb n 7 (by show (10 : Int) ≤ n; omega) 29 (by omega) (fun j h1 h2 => by have := hj j h2 h1; omega)
  refine (length_0 n w (by omega) (by omega) (by omega)).mono ?_
  rintro e w' ⟨rfl, hb⟩
  refine ⟨?_, hb⟩
  unfold lengthV
  rw [if_pos (by omega), hk]
  refine congrArg Ending.returned (tuple_part ?_ rfl ?_)
  · omega
  · show _ = n - (10 : Int)
    omega
theorem length_k8 (n : Int) (w : World) (h1 : 11 ≤ n) (h2 : n < 13) : Calls Tryd.prog 18 #[.int .i64 n] w fun e w' => e = .returned (lengthV n) ∧ Below w.heap.size w w' := by
  have hj : ∀ j, j < 29 → 8 < j → (13 : Int) ≤ lb.getD j 0 := by decide
  have hk : findN lb n 29 = 8 := findN_eq lb n 8 (by show (11 : Int) ≤ n; omega) 29 (by omega) (fun j h1 h2 => by have := hj j h2 h1; omega)
  refine (length_1 n w (by omega) (by omega) (by omega)).mono ?_
  rintro e w' ⟨rfl, hb⟩
  refine ⟨?_, hb⟩
  unfold lengthV
  rw [if_pos (by omega), hk]
  refine congrArg Ending.returned (tuple_part ?_ rfl ?_)
  · omega
  · show _ = n - (11 : Int)
    omega
theorem length_k9 (n : Int) (w : World) (h1 : 13 ≤ n) (h2 : n < 15) : Calls Tryd.prog 18 #[.int .i64 n] w fun e w' => e = .returned (lengthV n) ∧ Below w.heap.size w w' := by
  have hj : ∀ j, j < 29 → 9 < j → (15 : Int) ≤ lb.getD j 0 := by decide
  have hk : findN lb n 29 = 9 := findN_eq lb n 9 (by show (13 : Int) ≤ n; omega) 29 (by omega) (fun j h1 h2 => by have := hj j h2 h1; omega)
  refine (length_1 n w (by omega) (by omega) (by omega)).mono ?_
  rintro e w' ⟨rfl, hb⟩
  refine ⟨?_, hb⟩
  unfold lengthV
  rw [if_pos (by omega), hk]
  refine congrArg Ending.returned (tuple_part ?_ rfl ?_)
  · omega
  · show _ = n - (13 : Int)
    omega
theorem length_k10 (n : Int) (w : World) (h1 : 15 ≤ n) (h2 : n < 17) : Calls Tryd.prog 18 #[.int .i64 n] w fun e w' => e = .returned (lengthV n) ∧ Below w.heap.size w w' := by
  have hj : ∀ j, j < 29 → 10 < j → (17 : Int) ≤ lb.getD j 0 := by decide
  have hk : findN lb n 29 = 10 := findN_eq lb n 10 (by show (15 : Int) ≤ n; omega) 29 (by omega) (fun j h1 h2 => by have := hj j h2 h1; omega)
  refine (length_1 n w (by omega) (by omega) (by omega)).mono ?_
  rintro e w' ⟨rfl, hb⟩
  refine ⟨?_, hb⟩
  unfold lengthV
  rw [if_pos (by omega), hk]
  refine congrArg Ending.returned (tuple_part ?_ rfl ?_)
  · omega
  · show _ = n - (15 : Int)
    omega
theorem length_k11 (n : Int) (w : World) (h1 : 17 ≤ n) (h2 : n < 19) : Calls Tryd.prog 18 #[.int .i64 n] w fun e w' => e = .returned (lengthV n) ∧ Below w.heap.size w w' := by
  have hj : ∀ j, j < 29 → 11 < j → (19 : Int) ≤ lb.getD j 0 := by decide
  have hk : findN lb n 29 = 11 := findN_eq lb n 11 (by show (17 : Int) ≤ n; omega) 29 (by omega) (fun j h1 h2 => by have := hj j h2 h1; omega)
  refine (length_1 n w (by omega) (by omega) (by omega)).mono ?_
  rintro e w' ⟨rfl, hb⟩
  refine ⟨?_, hb⟩
  unfold lengthV
  rw [if_pos (by omega), hk]
  refine congrArg Ending.returned (tuple_part ?_ rfl ?_)
  · omega
  · show _ = n - (17 : Int)
    omega
theorem length_k12 (n : Int) (w : World) (h1 : 19 ≤ n) (h2 : n < 23) : Calls Tryd.prog 18 #[.int .i64 n] w fun e w' => e = .returned (lengthV n) ∧ Below w.heap.size w w' := by
  have hj : ∀ j, j < 29 → 12 < j → (23 : Int) ≤ lb.getD j 0 := by decide
  have hk : findN lb n 29 = 12 := findN_eq lb n 12 (by show (19 : Int) ≤ n; omega) 29 (by omega) (fun j h1 h2 => by have := hj j h2 h1; omega)
  refine (length_2 n w (by omega) (by omega) (by omega)).mono ?_
  rintro e w' ⟨rfl, hb⟩
  refine ⟨?_, hb⟩
  unfold lengthV
  rw [if_pos (by omega), hk]
  refine congrArg Ending.returned (tuple_part ?_ rfl ?_)
  · omega
  · show _ = n - (19 : Int)
    omega
theorem length_k13 (n : Int) (w : World) (h1 : 23 ≤ n) (h2 : n < 27) : Calls Tryd.prog 18 #[.int .i64 n] w fun e w' => e = .returned (lengthV n) ∧ Below w.heap.size w w' := by
  have hj : ∀ j, j < 29 → 13 < j → (27 : Int) ≤ lb.getD j 0 := by decide
  have hk : findN lb n 29 = 13 := findN_eq lb n 13 (by show (23 : Int) ≤ n; omega) 29 (by omega) (fun j h1 h2 => by have := hj j h2 h1; omega)
  refine (length_2 n w (by omega) (by omega) (by omega)).mono ?_
  rintro e w' ⟨rfl, hb⟩
  refine ⟨?_, hb⟩
  unfold lengthV
  rw [if_pos (by omega), hk]
  refine congrArg Ending.returned (tuple_part ?_ rfl ?_)
  · omega
  · show _ = n - (23 : Int)
    omega
theorem length_k14 (n : Int) (w : World) (h1 : 27 ≤ n) (h2 : n < 31) : Calls Tryd.prog 18 #[.int .i64 n] w fun e w' => e = .returned (lengthV n) ∧ Below w.heap.size w w' := by
  have hj : ∀ j, j < 29 → 14 < j → (31 : Int) ≤ lb.getD j 0 := by decide
  have hk : findN lb n 29 = 14 := findN_eq lb n 14 (by show (27 : Int) ≤ n; omega) 29 (by omega) (fun j h1 h2 => by have := hj j h2 h1; omega)
  refine (length_2 n w (by omega) (by omega) (by omega)).mono ?_
  rintro e w' ⟨rfl, hb⟩
  refine ⟨?_, hb⟩
  unfold lengthV
  rw [if_pos (by omega), hk]
  refine congrArg Ending.returned (tuple_part ?_ rfl ?_)
  · omega
  · show _ = n - (27 : Int)
    omega
theorem length_k15 (n : Int) (w : World) (h1 : 31 ≤ n) (h2 : n < 35) : Calls Tryd.prog 18 #[.int .i64 n] w fun e w' => e = .returned (lengthV n) ∧ Below w.heap.size w w' := by
  have hj : ∀ j, j < 29 → 15 < j → (35 : Int) ≤ lb.getD j 0 := by decide
  have hk : findN lb n 29 = 15 := findN_eq lb n 15 (by show (31 : Int) ≤ n; omega) 29 (by omega) (fun j h1 h2 => by have := hj j h2 h1; omega)
  refine (length_2 n w (by omega) (by omega) (by omega)).mono ?_
  rintro e w' ⟨rfl, hb⟩
  refine ⟨?_, hb⟩
  unfold lengthV
  rw [if_pos (by omega), hk]
  refine congrArg Ending.returned (tuple_part ?_ rfl ?_)
  · omega
  · show _ = n - (31 : Int)
    omega
theorem length_k16 (n : Int) (w : World) (h1 : 35 ≤ n) (h2 : n < 43) : Calls Tryd.prog 18 #[.int .i64 n] w fun e w' => e = .returned (lengthV n) ∧ Below w.heap.size w w' := by
  have hj : ∀ j, j < 29 → 16 < j → (43 : Int) ≤ lb.getD j 0 := by decide
  have hk : findN lb n 29 = 16 := findN_eq lb n 16 (by show (35 : Int) ≤ n; omega) 29 (by omega) (fun j h1 h2 => by have := hj j h2 h1; omega)
  refine (length_3 n w (by omega) (by omega) (by omega)).mono ?_
  rintro e w' ⟨rfl, hb⟩
  refine ⟨?_, hb⟩
  unfold lengthV
  rw [if_pos (by omega), hk]
  refine congrArg Ending.returned (tuple_part ?_ rfl ?_)
  · omega
  · show _ = n - (35 : Int)
    omega
theorem length_k17 (n : Int) (w : World) (h1 : 43 ≤ n) (h2 : n < 51) : Calls Tryd.prog 18 #[.int .i64 n] w fun e w' => e = .returned (lengthV n) ∧ Below w.heap.size w w' := by
  have hj : ∀ j, j < 29 → 17 < j → (51 : Int) ≤ lb.getD j 0 := by decide
  have hk : findN lb n 29 = 17 := findN_eq lb n 17 (by show (43 : Int) ≤ n; omega) 29 (by omega) (fun j h1 h2 => by have := hj j h2 h1; omega)
  refine (length_3 n w (by omega) (by omega) (by omega)).mono ?_
  rintro e w' ⟨rfl, hb⟩
  refine ⟨?_, hb⟩
  unfold lengthV
  rw [if_pos (by omega), hk]
  refine congrArg Ending.returned (tuple_part ?_ rfl ?_)
  · omega
  · show _ = n - (43 : Int)
    omega
theorem length_k18 (n : Int) (w : World) (h1 : 51 ≤ n) (h2 : n < 59) : Calls Tryd.prog 18 #[.int .i64 n] w fun e w' => e = .returned (lengthV n) ∧ Below w.heap.size w w' := by
  have hj : ∀ j, j < 29 → 18 < j → (59 : Int) ≤ lb.getD j 0 := by decide
  have hk : findN lb n 29 = 18 := findN_eq lb n 18 (by show (51 : Int) ≤ n; omega) 29 (by omega) (fun j h1 h2 => by have := hj j h2 h1; omega)
  refine (length_3 n w (by omega) (by omega) (by omega)).mono ?_
  rintro e w' ⟨rfl, hb⟩
  refine ⟨?_, hb⟩
  unfold lengthV
  rw [if_pos (by omega), hk]
  refine congrArg Ending.returned (tuple_part ?_ rfl ?_)
  · omega
  · show _ = n - (51 : Int)
    omega
theorem length_k19 (n : Int) (w : World) (h1 : 59 ≤ n) (h2 : n < 67) : Calls Tryd.prog 18 #[.int .i64 n] w fun e w' => e = .returned (lengthV n) ∧ Below w.heap.size w w' := by
  have hj : ∀ j, j < 29 → 19 < j → (67 : Int) ≤ lb.getD j 0 := by decide
  have hk : findN lb n 29 = 19 := findN_eq lb n 19 (by show (59 : Int) ≤ n; omega) 29 (by omega) (fun j h1 h2 => by have := hj j h2 h1; omega)
  refine (length_3 n w (by omega) (by omega) (by omega)).mono ?_
  rintro e w' ⟨rfl, hb⟩
  refine ⟨?_, hb⟩
  unfold lengthV
  rw [if_pos (by omega), hk]
  refine congrArg Ending.returned (tuple_part ?_ rfl ?_)
  · omega
  · show _ = n - (59 : Int)
    omega
theorem length_k20 (n : Int) (w : World) (h1 : 67 ≤ n) (h2 : n < 83) : Calls Tryd.prog 18 #[.int .i64 n] w fun e w' => e = .returned (lengthV n) ∧ Below w.heap.size w w' := by
  have hj : ∀ j, j < 29 → 20 < j → (83 : Int) ≤ lb.getD j 0 := by decide
  have hk : findN lb n 29 = 20 := findN_eq lb n 20 (by show (67 : Int) ≤ n; omega) 29 (by omega) (fun j h1 h2 => by have := hj j h2 h1; omega)
  refine (length_4 n w (by omega) (by omega) (by omega)).mono ?_
  rintro e w' ⟨rfl, hb⟩
  refine ⟨?_, hb⟩
  unfold lengthV
  rw [if_pos (by omega), hk]
  refine congrArg Ending.returned (tuple_part ?_ rfl ?_)
  · omega
  · show _ = n - (67 : Int)
    omega
theorem length_k21 (n : Int) (w : World) (h1 : 83 ≤ n) (h2 : n < 99) : Calls Tryd.prog 18 #[.int .i64 n] w fun e w' => e = .returned (lengthV n) ∧ Below w.heap.size w w' := by
  have hj : ∀ j, j < 29 → 21 < j → (99 : Int) ≤ lb.getD j 0 := by decide
  have hk : findN lb n 29 = 21 := findN_eq lb n 21 (by show (83 : Int) ≤ n; omega) 29 (by omega) (fun j h1 h2 => by have := hj j h2 h1; omega)
  refine (length_4 n w (by omega) (by omega) (by omega)).mono ?_
  rintro e w' ⟨rfl, hb⟩
  refine ⟨?_, hb⟩
  unfold lengthV
  rw [if_pos (by omega), hk]
  refine congrArg Ending.returned (tuple_part ?_ rfl ?_)
  · omega
  · show _ = n - (83 : Int)
    omega
theorem length_k22 (n : Int) (w : World) (h1 : 99 ≤ n) (h2 : n < 115) : Calls Tryd.prog 18 #[.int .i64 n] w fun e w' => e = .returned (lengthV n) ∧ Below w.heap.size w w' := by
  have hj : ∀ j, j < 29 → 22 < j → (115 : Int) ≤ lb.getD j 0 := by decide
  have hk : findN lb n 29 = 22 := findN_eq lb n 22 (by show (99 : Int) ≤ n; omega) 29 (by omega) (fun j h1 h2 => by have := hj j h2 h1; omega)
  refine (length_4 n w (by omega) (by omega) (by omega)).mono ?_
  rintro e w' ⟨rfl, hb⟩
  refine ⟨?_, hb⟩
  unfold lengthV
  rw [if_pos (by omega), hk]
  refine congrArg Ending.returned (tuple_part ?_ rfl ?_)
  · omega
  · show _ = n - (99 : Int)
    omega
theorem length_k23 (n : Int) (w : World) (h1 : 115 ≤ n) (h2 : n < 131) : Calls Tryd.prog 18 #[.int .i64 n] w fun e w' => e = .returned (lengthV n) ∧ Below w.heap.size w w' := by
  have hj : ∀ j, j < 29 → 23 < j → (131 : Int) ≤ lb.getD j 0 := by decide
  have hk : findN lb n 29 = 23 := findN_eq lb n 23 (by show (115 : Int) ≤ n; omega) 29 (by omega) (fun j h1 h2 => by have := hj j h2 h1; omega)
  refine (length_4 n w (by omega) (by omega) (by omega)).mono ?_
  rintro e w' ⟨rfl, hb⟩
  refine ⟨?_, hb⟩
  unfold lengthV
  rw [if_pos (by omega), hk]
  refine congrArg Ending.returned (tuple_part ?_ rfl ?_)
  · omega
  · show _ = n - (115 : Int)
    omega
theorem length_k24 (n : Int) (w : World) (h1 : 131 ≤ n) (h2 : n < 163) : Calls Tryd.prog 18 #[.int .i64 n] w fun e w' => e = .returned (lengthV n) ∧ Below w.heap.size w w' := by
  have hj : ∀ j, j < 29 → 24 < j → (163 : Int) ≤ lb.getD j 0 := by decide
  have hk : findN lb n 29 = 24 := findN_eq lb n 24 (by show (131 : Int) ≤ n; omega) 29 (by omega) (fun j h1 h2 => by have := hj j h2 h1; omega)
  refine (length_5 n w (by omega) (by omega) (by omega)).mono ?_
  rintro e w' ⟨rfl, hb⟩
  refine ⟨?_, hb⟩
  unfold lengthV
  rw [if_pos (by omega), hk]
  refine congrArg Ending.returned (tuple_part ?_ rfl ?_)
  · omega
  · show _ = n - (131 : Int)
    omega
theorem length_k25 (n : Int) (w : World) (h1 : 163 ≤ n) (h2 : n < 195) : Calls Tryd.prog 18 #[.int .i64 n] w fun e w' => e = .returned (lengthV n) ∧ Below w.heap.size w w' := by
  have hj : ∀ j, j < 29 → 25 < j → (195 : Int) ≤ lb.getD j 0 := by decide
  have hk : findN lb n 29 = 25 := findN_eq lb n 25 (by show (163 : Int) ≤ n; omega) 29 (by omega) (fun j h1 h2 => by have := hj j h2 h1; omega)
  refine (length_5 n w (by omega) (by omega) (by omega)).mono ?_
  rintro e w' ⟨rfl, hb⟩
  refine ⟨?_, hb⟩
  unfold lengthV
  rw [if_pos (by omega), hk]
  refine congrArg Ending.returned (tuple_part ?_ rfl ?_)
  · omega
  · show _ = n - (163 : Int)
    omega
theorem length_k26 (n : Int) (w : World) (h1 : 195 ≤ n) (h2 : n < 227) : Calls Tryd.prog 18 #[.int .i64 n] w fun e w' => e = .returned (lengthV n) ∧ Below w.heap.size w w' := by
  have hj : ∀ j, j < 29 → 26 < j → (227 : Int) ≤ lb.getD j 0 := by decide
  have hk : findN lb n 29 = 26 := findN_eq lb n 26 (by show (195 : Int) ≤ n; omega) 29 (by omega) (fun j h1 h2 => by have := hj j h2 h1; omega)
  refine (length_5 n w (by omega) (by omega) (by omega)).mono ?_
  rintro e w' ⟨rfl, hb⟩
  refine ⟨?_, hb⟩
  unfold lengthV
  rw [if_pos (by omega), hk]
  refine congrArg Ending.returned (tuple_part ?_ rfl ?_)
  · omega
  · show _ = n - (195 : Int)
    omega
theorem length_k27 (n : Int) (w : World) (h1 : 227 ≤ n) (h2 : n < 258) : Calls Tryd.prog 18 #[.int .i64 n] w fun e w' => e = .returned (lengthV n) ∧ Below w.heap.size w w' := by
  have hj : ∀ j, j < 29 → 27 < j → (258 : Int) ≤ lb.getD j 0 := by decide
  have hk : findN lb n 29 = 27 := findN_eq lb n 27 (by show (227 : Int) ≤ n; omega) 29 (by omega) (fun j h1 h2 => by have := hj j h2 h1; omega)
  refine (length_5 n w (by omega) (by omega) (by omega)).mono ?_
  rintro e w' ⟨rfl, hb⟩
  refine ⟨?_, hb⟩
  unfold lengthV
  rw [if_pos (by omega), hk]
  refine congrArg Ending.returned (tuple_part ?_ rfl ?_)
  · omega
  · show _ = n - (227 : Int)
    omega
theorem length_k28 (n : Int) (w : World) (h1 : 258 ≤ n) (h2 : n < 259) : Calls Tryd.prog 18 #[.int .i64 n] w fun e w' => e = .returned (lengthV n) ∧ Below w.heap.size w w' := by
  have hk : findN lb n 29 = 28 := findN_eq lb n 28 (by show (258 : Int) ≤ n; omega) 29 (by omega) (fun j h1 h2 => by omega)
  refine (length_top n w (by omega)).mono ?_
  rintro e w' ⟨rfl, hb⟩
  refine ⟨?_, hb⟩
  unfold lengthV
  rw [if_pos (by omega), hk]
  refine congrArg Ending.returned (tuple_part ?_ rfl ?_)
  · omega
  · show _ = n - (258 : Int)
    omega
theorem dist_any (n : Int) (w : World) (h0 : -9223372036854775808 ≤ n) : Calls Tryd.prog 19 #[.int .i64 n] w fun e w' => e = .returned (distV n) ∧ Below w.heap.size w w' := by
  rcases Int.lt_or_le n 1 with h | h
  · refine (dist_low n w h h0).mono ?_
    rintro e w' ⟨rfl, hb⟩
    exact ⟨by unfold distV; rw [if_neg (by omega)], hb⟩
  rcases Int.lt_or_le n 2 with h0 | h0
  · exact dist_k0 n w (by omega) (by omega)
  rcases Int.lt_or_le n 3 with h1 | h1
  · exact dist_k1 n w (by omega) (by omega)
  rcases Int.lt_or_le n 4 with h2 | h2
  · exact dist_k2 n w (by omega) (by omega)
  rcases Int.lt_or_le n 5 with h3 | h3
  · exact dist_k3 n w (by omega) (by omega)
  rcases Int.lt_or_le n 7 with h4 | h4
  · exact dist_k4 n w (by omega) (by omega)
  rcases Int.lt_or_le n 9 with h5 | h5
  · exact dist_k5 n w (by omega) (by omega)
  rcases Int.lt_or_le n 13 with h6 | h6
  · exact dist_k6 n w (by omega) (by omega)
  rcases Int.lt_or_le n 17 with h7 | h7
  · exact dist_k7 n w (by omega) (by omega)
  rcases Int.lt_or_le n 25 with h8 | h8
  · exact dist_k8 n w (by omega) (by omega)
  rcases Int.lt_or_le n 33 with h9 | h9
  · exact dist_k9 n w (by omega) (by omega)
  rcases Int.lt_or_le n 49 with h10 | h10
  · exact dist_k10 n w (by omega) (by omega)
  rcases Int.lt_or_le n 65 with h11 | h11
  · exact dist_k11 n w (by omega) (by omega)
  rcases Int.lt_or_le n 97 with h12 | h12
  · exact dist_k12 n w (by omega) (by omega)
  rcases Int.lt_or_le n 129 with h13 | h13
  · exact dist_k13 n w (by omega) (by omega)
  rcases Int.lt_or_le n 193 with h14 | h14
  · exact dist_k14 n w (by omega) (by omega)
  rcases Int.lt_or_le n 257 with h15 | h15
  · exact dist_k15 n w (by omega) (by omega)
  rcases Int.lt_or_le n 385 with h16 | h16
  · exact dist_k16 n w (by omega) (by omega)
  rcases Int.lt_or_le n 513 with h17 | h17
  · exact dist_k17 n w (by omega) (by omega)
  rcases Int.lt_or_le n 769 with h18 | h18
  · exact dist_k18 n w (by omega) (by omega)
  rcases Int.lt_or_le n 1025 with h19 | h19
  · exact dist_k19 n w (by omega) (by omega)
  rcases Int.lt_or_le n 1537 with h20 | h20
  · exact dist_k20 n w (by omega) (by omega)
  rcases Int.lt_or_le n 2049 with h21 | h21
  · exact dist_k21 n w (by omega) (by omega)
  rcases Int.lt_or_le n 3073 with h22 | h22
  · exact dist_k22 n w (by omega) (by omega)
  rcases Int.lt_or_le n 4097 with h23 | h23
  · exact dist_k23 n w (by omega) (by omega)
  rcases Int.lt_or_le n 6145 with h24 | h24
  · exact dist_k24 n w (by omega) (by omega)
  rcases Int.lt_or_le n 8193 with h25 | h25
  · exact dist_k25 n w (by omega) (by omega)
  rcases Int.lt_or_le n 12289 with h26 | h26
  · exact dist_k26 n w (by omega) (by omega)
  rcases Int.lt_or_le n 16385 with h27 | h27
  · exact dist_k27 n w (by omega) (by omega)
  rcases Int.lt_or_le n 24577 with h28 | h28
  · exact dist_k28 n w (by omega) (by omega)
  rcases Int.lt_or_le n 32769 with h29 | h29
  · exact dist_k29 n w (by omega) (by omega)
  refine (dist_high n w (by omega)).mono ?_
  rintro e w' ⟨rfl, hb⟩
  exact ⟨by unfold distV; rw [if_neg (by omega)], hb⟩
theorem length_any (n : Int) (w : World) (h0 : -9223372036854775808 ≤ n) : Calls Tryd.prog 18 #[.int .i64 n] w fun e w' => e = .returned (lengthV n) ∧ Below w.heap.size w w' := by
  rcases Int.lt_or_le n 3 with h | h
  · refine (length_low n w h h0).mono ?_
    rintro e w' ⟨rfl, hb⟩
    exact ⟨by unfold lengthV; rw [if_neg (by omega)], hb⟩
  rcases Int.lt_or_le n 4 with h0 | h0
  · exact length_k0 n w (by omega) (by omega)
  rcases Int.lt_or_le n 5 with h1 | h1
  · exact length_k1 n w (by omega) (by omega)
  rcases Int.lt_or_le n 6 with h2 | h2
  · exact length_k2 n w (by omega) (by omega)
  rcases Int.lt_or_le n 7 with h3 | h3
  · exact length_k3 n w (by omega) (by omega)
  rcases Int.lt_or_le n 8 with h4 | h4
  · exact length_k4 n w (by omega) (by omega)
  rcases Int.lt_or_le n 9 with h5 | h5
  · exact length_k5 n w (by omega) (by omega)
  rcases Int.lt_or_le n 10 with h6 | h6
  · exact length_k6 n w (by omega) (by omega)
  rcases Int.lt_or_le n 11 with h7 | h7
  · exact length_k7 n w (by omega) (by omega)
  rcases Int.lt_or_le n 13 with h8 | h8
  · exact length_k8 n w (by omega) (by omega)
  rcases Int.lt_or_le n 15 with h9 | h9
  · exact length_k9 n w (by omega) (by omega)
  rcases Int.lt_or_le n 17 with h10 | h10
  · exact length_k10 n w (by omega) (by omega)
  rcases Int.lt_or_le n 19 with h11 | h11
  · exact length_k11 n w (by omega) (by omega)
  rcases Int.lt_or_le n 23 with h12 | h12
  · exact length_k12 n w (by omega) (by omega)
  rcases Int.lt_or_le n 27 with h13 | h13
  · exact length_k13 n w (by omega) (by omega)
  rcases Int.lt_or_le n 31 with h14 | h14
  · exact length_k14 n w (by omega) (by omega)
  rcases Int.lt_or_le n 35 with h15 | h15
  · exact length_k15 n w (by omega) (by omega)
  rcases Int.lt_or_le n 43 with h16 | h16
  · exact length_k16 n w (by omega) (by omega)
  rcases Int.lt_or_le n 51 with h17 | h17
  · exact length_k17 n w (by omega) (by omega)
  rcases Int.lt_or_le n 59 with h18 | h18
  · exact length_k18 n w (by omega) (by omega)
  rcases Int.lt_or_le n 67 with h19 | h19
  · exact length_k19 n w (by omega) (by omega)
  rcases Int.lt_or_le n 83 with h20 | h20
  · exact length_k20 n w (by omega) (by omega)
  rcases Int.lt_or_le n 99 with h21 | h21
  · exact length_k21 n w (by omega) (by omega)
  rcases Int.lt_or_le n 115 with h22 | h22
  · exact length_k22 n w (by omega) (by omega)
  rcases Int.lt_or_le n 131 with h23 | h23
  · exact length_k23 n w (by omega) (by omega)
  rcases Int.lt_or_le n 163 with h24 | h24
  · exact length_k24 n w (by omega) (by omega)
  rcases Int.lt_or_le n 195 with h25 | h25
  · exact length_k25 n w (by omega) (by omega)
  rcases Int.lt_or_le n 227 with h26 | h26
  · exact length_k26 n w (by omega) (by omega)
  rcases Int.lt_or_le n 258 with h27 | h27
  · exact length_k27 n w (by omega) (by omega)
  rcases Int.lt_or_le n 259 with h28 | h28
  · exact length_k28 n w (by omega) (by omega)
  refine (length_high n w (by omega)).mono ?_
  rintro e w' ⟨rfl, hb⟩
  exact ⟨by unfold lengthV; rw [if_neg (by omega)], hb⟩
theorem lengths_any (w : World) : Calls Tryd.prog 7 #[] w fun e w' => e = .returned (.tuple #[.slice (some ⟨w.heap.size, 0, none⟩) 29 29, .slice (some ⟨w.heap.size + 1, 0, none⟩) 29 29]) ∧ Below w.heap.size w w' ∧ Whole w' w.heap.size 3 (arr lb) ∧ Whole w' (w.heap.size + 1) 3 (arr lx) := by
  refine (lengths_call w).mono ?_
  rintro e w' ⟨rfl, rfl⟩
  exact ⟨rfl, ((Below.refl _ _).alloc (Nat.le_refl _) _).alloc (by simp) _, (Whole.new w 3 (arr lb) rfl).alloc _, Whole.new _ 3 (arr lx) (by simp)⟩
theorem dists_any (w : World) : Calls Tryd.prog 8 #[] w fun e w' => e = .returned (.tuple #[.slice (some ⟨w.heap.size, 0, none⟩) 30 30, .slice (some ⟨w.heap.size + 1, 0, none⟩) 30 30]) ∧ Below w.heap.size w w' ∧ Whole w' w.heap.size 3 (arr db) ∧ Whole w' (w.heap.size + 1) 3 (arr dx) := by
  refine (dists_call w).mono ?_
  rintro e w' ⟨rfl, rfl⟩
  exact ⟨rfl, ((Below.refl _ _).alloc (Nat.le_refl _) _).alloc (by simp) _, (Whole.new w 3 (arr db) rfl).alloc _, Whole.new _ 3 (arr dx) (by simp)⟩
end Go.Proofs.YtgncenladhempaaDoor
