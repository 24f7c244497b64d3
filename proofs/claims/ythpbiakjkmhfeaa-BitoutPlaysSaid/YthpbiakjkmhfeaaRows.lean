/-
  No cell of these rows narrows 'for every input' (looked for: loops, veiled, ifaces, maps, wideKeys, modest, calm, conditions, laid).
  DERIVED. THE GIVEN ROWS OF THIS SEAT. 3 by the template 'for every input the law returns true; each argument reads behind the call as it read before'; 0 by the template 'total and deterministic' (their statements: YthpbiakjkmhfeaaTotals.lean).
  GIVEN WITH THE SEED: the statements are not yours to turn. If you find one false, say at which input.
  Laid BY PROGRAM, IN A SANDBOX (cutbox-rows.mjs): the forced cells as the released guide's own fill.sh prints them over the translation 05920a52046a1bff… (all of the seat's roots in one cut). By AI agents, Wed Nov 11 2026. No macro, syntax, notation, axiom, sorry.
-/
import Derived.Test.YthpbiakjkmhfeaaChecked
import GoSem.Claim
import GoSem.ClaimJoined
import GoSem.ClaimMapViews
import Derived.JoinedTies
import Derived.KernelRfl
namespace Go.Proofs.Ythpbiakjkmhfeaa
/- THE CELL 'sum', in the pinned program and in every row, IS THE sha256 OF THE DUMP (.gsa) THAT YthpbiakjkmhfeaaProg.lean LOADS. Nothing in Lean hashes anything: it is a label: what it is worth is what the hold of that sum in a sandbox is worth. -/
noncomputable def Try.pinned : Pinned := { name := "ythpbiakjkmhfeaa", sum := "05920a52046a1bff07da3a9368558eacbf9ecc7efdf924df1e868d201b4d8042", checked := Try.checked }
namespace Rows
def none {H : Type} : Left H := { results := [], args := [] }

/-- 'punnetlaw06.BitoutPlays': WHATEVER THE INPUT: true; the input reads as it did. -/
def bitoutPlaysSpec : ChangeSpec := { name := "bitoutPlays", fn := fun _ => fun
  | [d] => { results := [.lit (.bool true)], args := [d] }
  | _ => none }
def bitoutPlaysRow : OpenClaim := { program := "ythpbiakjkmhfeaa", sum := "05920a52046a1bff07da3a9368558eacbf9ecc7efdf924df1e868d201b4d8042", func := "punnet/punnetlaw06.BitoutPlays", spec := "bitoutPlays", apart := false }
def BitoutPlaysSaid : Prop := bitoutPlaysRow.holds Try.pinned (OpenSpec.ofChange bitoutPlaysSpec)

/-- ITS FALSE NEIGHBOUR: 'it returns false'. Refute it at one input. -/
def bitoutPlaysWrong : ChangeSpec := { name := "bitoutPlays", fn := fun _ => fun
  | [d] => { results := [.lit (.bool false)], args := [d] }
  | _ => none }
def BitoutPlaysWrongFalsely : Prop := bitoutPlaysRow.holds Try.pinned (OpenSpec.ofChange bitoutPlaysWrong)

/-- 'punnetlaw06.BitoutReverse': WHATEVER THE INPUT: true; the input reads as it did. -/
def bitoutReverseSpec : ChangeSpec := { name := "bitoutReverse", fn := fun _ => fun
  | [d1, d2] => { results := [.lit (.bool true)], args := [d1, d2] }
  | _ => none }
def bitoutReverseRow : OpenClaim := { program := "ythpbiakjkmhfeaa", sum := "05920a52046a1bff07da3a9368558eacbf9ecc7efdf924df1e868d201b4d8042", func := "punnet/punnetlaw06.BitoutReverse", spec := "bitoutReverse", apart := false }
def BitoutReverseSaid : Prop := bitoutReverseRow.holds Try.pinned (OpenSpec.ofChange bitoutReverseSpec)

/-- ITS FALSE NEIGHBOUR: 'it returns false'. Refute it at one input. -/
def bitoutReverseWrong : ChangeSpec := { name := "bitoutReverse", fn := fun _ => fun
  | [d1, d2] => { results := [.lit (.bool false)], args := [d1, d2] }
  | _ => none }
def BitoutReverseWrongFalsely : Prop := bitoutReverseRow.holds Try.pinned (OpenSpec.ofChange bitoutReverseWrong)

/-- 'punnetlaw06.BitoutBack': WHATEVER THE INPUT: true; the input reads as it did. -/
def bitoutBackSpec : ChangeSpec := { name := "bitoutBack", fn := fun _ => fun
  | [d] => { results := [.lit (.bool true)], args := [d] }
  | _ => none }
def bitoutBackRow : OpenClaim := { program := "ythpbiakjkmhfeaa", sum := "05920a52046a1bff07da3a9368558eacbf9ecc7efdf924df1e868d201b4d8042", func := "punnet/punnetlaw06.BitoutBack", spec := "bitoutBack", apart := false }
def BitoutBackSaid : Prop := bitoutBackRow.holds Try.pinned (OpenSpec.ofChange bitoutBackSpec)

/-- ITS FALSE NEIGHBOUR: 'it returns false'. Refute it at one input. -/
def bitoutBackWrong : ChangeSpec := { name := "bitoutBack", fn := fun _ => fun
  | [d] => { results := [.lit (.bool false)], args := [d] }
  | _ => none }
def BitoutBackWrongFalsely : Prop := bitoutBackRow.holds Try.pinned (OpenSpec.ofChange bitoutBackWrong)

/- THE SECOND FORM. 'bulk': how many values and letters a reading holds, each counted each time it is reached (what is shared counts as often as it is met; a slice's spare places count too). A statement '..UptoSaid' is the law's where the arguments, and the package variables that the reading takes, are together of bulk at most 1048576: NARROWER than '..Said'. Prove '..Said' where nothing that the law and all that it calls make is longer than what came in: it says more and counts as full. Else prove '..UptoSaid'. A law counts once. -/
mutual
def uptoBulk {H : Type} : DataW H → Nat
  | .lit (.string bytes) => bytes.length + 1
  | .lit _ => 1
  | .nil => 1
  | .ptr d => uptoBulk d + 1
  | .slice elems spare => uptoBulkAll elems + uptoBulkAll spare + 1
  | .agg parts => uptoBulkAll parts + 1
  | .iface _ d => uptoBulk d + 1
  | .map entries => uptoBulkEntries entries + 1
  | .held _ => 1
def uptoBulkAll {H : Type} : List (DataW H) → Nat
  | [] => 0
  | d :: r => uptoBulk d + uptoBulkAll r
def uptoBulkEntries {H : Type} : List (Lit × DataW H) → Nat
  | [] => 0
  | x :: r => uptoBulkEntry x + uptoBulkEntries r
def uptoBulkEntry {H : Type} : Lit × DataW H → Nat
  | (.string bytes, d) => bytes.length + uptoBulk d + 1
  | (_, d) => uptoBulk d + 1
 end
def uptoSmall : (H : Type) → List (DataW H) → Bool := fun _ ds => decide (uptoBulkAll ds ≤ 1048576)
def OpenSpec.upto (s : _root_.Go.ChangeSpec) : _root_.Go.OpenSpec := { _root_.Go.OpenSpec.ofChange s with cond := some uptoSmall }

/-- 'punnetlaw06.BitoutPlays', WHERE WHAT IT READS IS OF BULK AT MOST 1048576: true; the input reads as it did. -/
def bitoutPlaysUptoRow : OpenClaim := { program := "ythpbiakjkmhfeaa", sum := "05920a52046a1bff07da3a9368558eacbf9ecc7efdf924df1e868d201b4d8042", func := "punnet/punnetlaw06.BitoutPlays", spec := "bitoutPlays", apart := false, narrowed := true }
def BitoutPlaysUptoSaid : Prop := bitoutPlaysUptoRow.holds Try.pinned (OpenSpec.upto bitoutPlaysSpec)

/-- 'punnetlaw06.BitoutReverse', WHERE WHAT IT READS IS OF BULK AT MOST 1048576: true; the input reads as it did. -/
def bitoutReverseUptoRow : OpenClaim := { program := "ythpbiakjkmhfeaa", sum := "05920a52046a1bff07da3a9368558eacbf9ecc7efdf924df1e868d201b4d8042", func := "punnet/punnetlaw06.BitoutReverse", spec := "bitoutReverse", apart := false, narrowed := true }
def BitoutReverseUptoSaid : Prop := bitoutReverseUptoRow.holds Try.pinned (OpenSpec.upto bitoutReverseSpec)

/-- 'punnetlaw06.BitoutBack', WHERE WHAT IT READS IS OF BULK AT MOST 1048576: true; the input reads as it did. -/
def bitoutBackUptoRow : OpenClaim := { program := "ythpbiakjkmhfeaa", sum := "05920a52046a1bff07da3a9368558eacbf9ecc7efdf924df1e868d201b4d8042", func := "punnet/punnetlaw06.BitoutBack", spec := "bitoutBack", apart := false, narrowed := true }
def BitoutBackUptoSaid : Prop := bitoutBackUptoRow.holds Try.pinned (OpenSpec.upto bitoutBackSpec)

end Rows
end Go.Proofs.Ythpbiakjkmhfeaa
