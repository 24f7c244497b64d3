/- The sums of layer 4 as functions on natural numbers: bit by bit, and four bits at a time. -/
namespace Crc

def poly : Nat := 3988292384
def bit (s : Nat) : Nat := if s % 2 = 1 then s / 2 ^^^ poly else s / 2
def bit4 (s : Nat) : Nat := bit (bit (bit (bit s)))
def bit8 (s : Nat) : Nat := bit4 (bit4 s)
def bitN : Nat → Nat → Nat | 0, s => s | k + 1, s => bit (bitN k s)
def half : List Nat := [0, 498536548, 997073096, 651767980, 1994146192, 1802195444, 1303535960, 1342533948, 3988292384, 4027552580, 3604390888, 3412177804, 2607071920, 2262029012, 2685067896, 3183342108]
def run (s : Nat) (ns : List Nat) : Nat := ns.foldl (fun s b => bit8 (s ^^^ b)) s
def ones : Nat := 4294967295
def sum (s : Nat) (ns : List Nat) : Nat := ones - run (ones - s) ns

theorem xor_left_comm (a b c : Nat) : a ^^^ (b ^^^ c) = b ^^^ (a ^^^ c) := by rw [← Nat.xor_assoc, ← Nat.xor_assoc, Nat.xor_comm a b]
theorem bit_xor (a b : Nat) : bit (a ^^^ b) = bit a ^^^ bit b := by
  have hm : (a ^^^ b) % 2 = (a % 2) ^^^ (b % 2) := by simpa using Nat.xor_mod_two_pow (a := a) (b := b) (n := 1)
  unfold bit
  rw [Nat.xor_div_two, hm]
  rcases Nat.mod_two_eq_zero_or_one a with ha | ha <;> rcases Nat.mod_two_eq_zero_or_one b with hb | hb <;> rw [ha, hb]
  · rfl
  · show a / 2 ^^^ b / 2 ^^^ poly = a / 2 ^^^ (b / 2 ^^^ poly)
    rw [Nat.xor_assoc]
  · show a / 2 ^^^ b / 2 ^^^ poly = (a / 2 ^^^ poly) ^^^ b / 2
    rw [Nat.xor_assoc, Nat.xor_comm (b / 2), ← Nat.xor_assoc]
  · show a / 2 ^^^ b / 2 = (a / 2 ^^^ poly) ^^^ (b / 2 ^^^ poly)
    rw [Nat.xor_assoc, xor_left_comm poly, Nat.xor_self, Nat.xor_zero]
theorem bit4_xor (a b : Nat) : bit4 (a ^^^ b) = bit4 a ^^^ bit4 b := by
  unfold bit4
  rw [bit_xor, bit_xor, bit_xor, bit_xor]
theorem bit8_xor (a b : Nat) : bit8 (a ^^^ b) = bit8 a ^^^ bit8 b := by
  unfold bit8
  rw [bit4_xor, bit4_xor]
theorem bit_two (u : Nat) : bit (2 * u) = u := by
  unfold bit
  rw [if_neg (by omega)]
  omega
theorem bit4_sixteen (t : Nat) : bit4 (16 * t) = t := by
  unfold bit4
  rw [show 16 * t = 2 * (2 * (2 * (2 * t))) by omega, bit_two, bit_two, bit_two, bit_two]
theorem join16 (s : Nat) : s = (16 * (s / 16)) ^^^ (s % 16) := by
  have h1 : ((16 * (s / 16)) ^^^ (s % 16)) / 2 ^ 4 = s / 16 := by
    rw [Nat.xor_div_two_pow]
    rw [show 16 * (s / 16) / 2 ^ 4 = s / 16 by omega, show s % 16 / 2 ^ 4 = 0 by omega, Nat.xor_zero]
  have h2 : ((16 * (s / 16)) ^^^ (s % 16)) % 2 ^ 4 = s % 16 := by
    rw [Nat.xor_mod_two_pow]
    rw [show 16 * (s / 16) % 2 ^ 4 = 0 by omega, show s % 16 % 2 ^ 4 = s % 16 by omega, Nat.zero_xor]
  omega
theorem half_eq : ∀ r, r < 16 → bit4 r = half.getD r 0 := by decide
theorem nib (s : Nat) : (s / 16) ^^^ half.getD (s % 16) 0 = bit4 s := by
  have h := bit4_xor (16 * (s / 16)) (s % 16)
  rw [← join16, bit4_sixteen, half_eq (s % 16) (by omega)] at h
  exact h.symm
theorem half_lt : ∀ r, r < 16 → half.getD r 0 < 4294967296 := by decide
theorem bit_lt (s : Nat) (h : s < 4294967296) : bit s < 4294967296 := by
  unfold bit
  split
  · exact Nat.xor_lt_two_pow (n := 32) (by omega) (by decide)
  · omega
theorem bit4_lt (s : Nat) (h : s < 4294967296) : bit4 s < 4294967296 := bit_lt _ (bit_lt _ (bit_lt _ (bit_lt _ h)))
theorem bit8_lt (s : Nat) (h : s < 4294967296) : bit8 s < 4294967296 := bit4_lt _ (bit4_lt _ h)
theorem bitN8 (s : Nat) : bitN 8 s = bit8 s := rfl
theorem bitN_lt (k s : Nat) (h : s < 4294967296) : bitN k s < 4294967296 := by
  induction k with
  | zero => exact h
  | succ k ih => exact bit_lt _ ih
theorem xor_lt (a b : Nat) (ha : a < 4294967296) (hb : b < 4294967296) : a ^^^ b < 4294967296 := Nat.xor_lt_two_pow (n := 32) (by omega) (by omega)
theorem run_lt (ns : List Nat) (s : Nat) (h : s < 4294967296) (hn : ∀ b ∈ ns, b < 256) : run s ns < 4294967296 := by
  induction ns generalizing s with
  | nil => exact h
  | cons b ns ih =>
    have hb := hn b (by simp)
    exact ih _ (bit8_lt _ (xor_lt _ _ h (by omega))) fun c hc => hn c (by simp [hc])
theorem run_snoc (s : Nat) (ns : List Nat) (b : Nat) : run s (ns ++ [b]) = bit8 (run s ns ^^^ b) := by simp [run]
theorem run_take (s : Nat) (ns : List Nat) (k : Nat) (h : k < ns.length) : run s (ns.take (k + 1)) = bit8 (run s (ns.take k) ^^^ ns.getD k 0) := by
  rw [List.take_succ_eq_append_getElem h, run_snoc, List.getD_eq_getElem?_getD, List.getElem?_eq_getElem h]
  rfl
/-- The sum of three texts added bit by bit without carry. -/
theorem run_xor3 : ∀ (as bs cs : List Nat) (s t u : Nat), as.length = bs.length → bs.length = cs.length →
    run (s ^^^ t ^^^ u) (List.zipWith (fun x y => x ^^^ y) (List.zipWith (fun x y => x ^^^ y) as bs) cs) = run s as ^^^ run t bs ^^^ run u cs
  | [], [], [], s, t, u, _, _ => rfl
  | a :: as, b :: bs, c :: cs, s, t, u, h1, h2 => by
    have ih := run_xor3 as bs cs (bit8 (s ^^^ a)) (bit8 (t ^^^ b)) (bit8 (u ^^^ c)) (by simpa using h1) (by simpa using h2)
    simp only [run, List.zipWith_cons_cons, List.foldl_cons] at ih ⊢
    rw [← ih]
    congr 1
    rw [← bit8_xor, ← bit8_xor]
    congr 1
    simp only [Nat.xor_assoc]
    congr 1
    rw [xor_left_comm a t, xor_left_comm b, xor_left_comm a u]
theorem compl (s : Nat) (h : s < 4294967296) : s ^^^ ones = ones - s := by
  have h1 : (~~~(BitVec.ofNat 32 s)).toNat = 2 ^ 32 - 1 - (BitVec.ofNat 32 s).toNat := BitVec.toNat_not
  rw [BitVec.not_def, BitVec.toNat_xor, BitVec.toNat_allOnes, BitVec.toNat_ofNat, Nat.mod_eq_of_lt (by omega)] at h1
  rw [Nat.xor_comm]
  exact h1
def mix (xs ys zs : List Nat) : List Nat := List.zipWith (fun x y => x ^^^ y) (List.zipWith (fun x y => x ^^^ y) xs ys) zs
theorem sum_xor3 (xs ys zs : List Nat) (h1 : xs.length = ys.length) (h2 : ys.length = zs.length) (sx : ∀ b ∈ xs, b < 256) (sy : ∀ b ∈ ys, b < 256) (sz : ∀ b ∈ zs, b < 256) (sm : ∀ b ∈ mix xs ys zs, b < 256) :
    sum 0 (mix xs ys zs) = sum 0 xs ^^^ sum 0 ys ^^^ sum 0 zs := by
  have ho : ones < 4294967296 := by decide
  have h := run_xor3 xs ys zs ones ones ones h1 h2
  rw [Nat.xor_self, Nat.zero_xor] at h
  unfold sum
  rw [show ones - 0 = ones from rfl, ← compl _ (run_lt _ _ ho sx), ← compl _ (run_lt _ _ ho sy), ← compl _ (run_lt _ _ ho sz), ← compl _ (run_lt _ _ ho sm)]
  unfold mix
  rw [h]
  generalize run ones xs = a
  generalize run ones ys = b
  generalize run ones zs = c
  generalize ones = o
  simp only [Nat.xor_assoc]
  congr 1
  rw [xor_left_comm o b, xor_left_comm o c]
  congr 1
  rw [Nat.xor_self, Nat.xor_zero, Nat.xor_comm]
theorem mix_len (xs ys zs : List Nat) (m : Nat) (h1 : xs.length = m) (h2 : ys.length = m) (h3 : zs.length = m) : (mix xs ys zs).length = m := by
  simp [mix]; omega
theorem mix_at (xs ys zs : List Nat) (k : Nat) (h1 : k < xs.length) (h2 : k < ys.length) (h3 : k < zs.length) : (mix xs ys zs).getD k 0 = (xs.getD k 0 ^^^ ys.getD k 0) ^^^ zs.getD k 0 := by
  unfold mix
  have e1 : k < (List.zipWith (fun x y => x ^^^ y) xs ys).length := by simp; omega
  rw [List.getD_eq_getElem?_getD, List.getElem?_eq_getElem (by simp; omega), List.getD_eq_getElem?_getD, List.getElem?_eq_getElem h1, List.getD_eq_getElem?_getD, List.getElem?_eq_getElem h2, List.getD_eq_getElem?_getD, List.getElem?_eq_getElem h3]
  simp
theorem mix_small (xs ys zs : List Nat) (sx : ∀ b ∈ xs, b < 256) (sy : ∀ b ∈ ys, b < 256) (sz : ∀ b ∈ zs, b < 256) : ∀ b ∈ mix xs ys zs, b < 256 := by
  intro b hb
  obtain ⟨i, hi, rfl⟩ := List.mem_iff_getElem.1 hb
  have h1 : i < xs.length := by simp [mix] at hi; omega
  have h2 : i < ys.length := by simp [mix] at hi; omega
  have h3 : i < zs.length := by simp [mix] at hi; omega
  rw [show (mix xs ys zs)[i] = (xs[i] ^^^ ys[i]) ^^^ zs[i] from by simp [mix]]
  exact Nat.xor_lt_two_pow (n := 8) (Nat.xor_lt_two_pow (n := 8) (sx _ (List.getElem_mem h1)) (sy _ (List.getElem_mem h2))) (sz _ (List.getElem_mem h3))
end Crc
