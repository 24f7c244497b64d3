/-
  No cell of these rows narrows 'for every input' (looked for: loops, veiled, ifaces, maps, wideKeys, modest, calm, conditions, laid).
  DERIVED. THE GIVEN ROWS OF THIS SEAT. 3 by the template 'for every input the law returns true; each argument reads behind the call as it read before'; 0 by the template 'total and deterministic' (their statements: YtgjkkapopjpohaaTotals.lean).
  GIVEN WITH THE SEED: the statements are not yours to turn. If you find one false, say at which input.
  Laid BY PROGRAM, IN A SANDBOX (cutbox-rows.mjs): the forced cells as the released guide's own fill.sh prints them over the translation e374b986cf25f70b… (all of the seat's roots in one cut). By AI agents, Wed Nov 11 2026. No macro, syntax, notation, axiom, sorry.
-/
import Derived.Test.YtgjkkapopjpohaaChecked
import GoSem.Claim
import GoSem.ClaimJoined
import GoSem.ClaimMapViews
import Derived.JoinedTies
import Derived.KernelRfl
namespace Go.Proofs.Ytgjkkapopjpohaa
/- THE CELL 'sum', in the pinned program and in every row, IS THE sha256 OF THE DUMP (.gsa) THAT YtgjkkapopjpohaaProg.lean LOADS. Nothing in Lean hashes anything: it is a label: what it is worth is what the hold of that sum in a sandbox is worth. -/
noncomputable def Try.pinned : Pinned := { name := "ytgjkkapopjpohaa", sum := "e374b986cf25f70bb24d1020e05992c88dd0274a1738beedd78d4cc50ec8f82e", checked := Try.checked }
namespace Rows
def none {H : Type} : Left H := { results := [], args := [] }

/-- 'punnetlaw30.FinishWrites': WHATEVER THE INPUT: true; the input reads as it did. -/
def finishWritesSpec : ChangeSpec := { name := "finishWrites", fn := fun _ => fun
  | [d] => { results := [.lit (.bool true)], args := [d] }
  | _ => none }
def finishWritesRow : OpenClaim := { program := "ytgjkkapopjpohaa", sum := "e374b986cf25f70bb24d1020e05992c88dd0274a1738beedd78d4cc50ec8f82e", func := "punnet/punnetlaw30.FinishWrites", spec := "finishWrites", apart := false }
def FinishWritesSaid : Prop := finishWritesRow.holds Try.pinned (OpenSpec.ofChange finishWritesSpec)

/-- ITS FALSE NEIGHBOUR: 'it returns false'. Refute it at one input. -/
def finishWritesWrong : ChangeSpec := { name := "finishWrites", fn := fun _ => fun
  | [d] => { results := [.lit (.bool false)], args := [d] }
  | _ => none }
def FinishWritesWrongFalsely : Prop := finishWritesRow.holds Try.pinned (OpenSpec.ofChange finishWritesWrong)

/-- 'punnetlaw30.FinishReads': WHATEVER THE INPUT: true; the input reads as it did. -/
def finishReadsSpec : ChangeSpec := { name := "finishReads", fn := fun _ => fun
  | [d] => { results := [.lit (.bool true)], args := [d] }
  | _ => none }
def finishReadsRow : OpenClaim := { program := "ytgjkkapopjpohaa", sum := "e374b986cf25f70bb24d1020e05992c88dd0274a1738beedd78d4cc50ec8f82e", func := "punnet/punnetlaw30.FinishReads", spec := "finishReads", unfollowed := true, recurses := true, apart := false }
def FinishReadsSaid : Prop := finishReadsRow.holds Try.pinned (OpenSpec.ofChange finishReadsSpec)

/-- ITS FALSE NEIGHBOUR: 'it returns false'. Refute it at one input. -/
def finishReadsWrong : ChangeSpec := { name := "finishReads", fn := fun _ => fun
  | [d] => { results := [.lit (.bool false)], args := [d] }
  | _ => none }
def FinishReadsWrongFalsely : Prop := finishReadsRow.holds Try.pinned (OpenSpec.ofChange finishReadsWrong)

/-- 'punnetlaw30.FinishBack': WHATEVER THE INPUT: true; the input reads as it did. -/
def finishBackSpec : ChangeSpec := { name := "finishBack", fn := fun _ => fun
  | [d1, d2, d3] => { results := [.lit (.bool true)], args := [d1, d2, d3] }
  | _ => none }
def finishBackRow : OpenClaim := { program := "ytgjkkapopjpohaa", sum := "e374b986cf25f70bb24d1020e05992c88dd0274a1738beedd78d4cc50ec8f82e", func := "punnet/punnetlaw30.FinishBack", spec := "finishBack", unfollowed := true, recurses := true, apart := false }
def FinishBackSaid : Prop := finishBackRow.holds Try.pinned (OpenSpec.ofChange finishBackSpec)

/-- ITS FALSE NEIGHBOUR: 'it returns false'. Refute it at one input. -/
def finishBackWrong : ChangeSpec := { name := "finishBack", fn := fun _ => fun
  | [d1, d2, d3] => { results := [.lit (.bool false)], args := [d1, d2, d3] }
  | _ => none }
def FinishBackWrongFalsely : Prop := finishBackRow.holds Try.pinned (OpenSpec.ofChange finishBackWrong)

/- THE SECOND FORM. 'bulk': how many values and letters a reading holds, each counted each time it is reached (what is shared counts as often as it is met; a slice's spare places count too). A statement '..UptoSaid' is the law's where the arguments, and the package variables that the reading takes, are together of bulk at most 1048576: NARROWER than '..Said'. Prove '..Said' where nothing that the law and all that it calls make is longer than what came in: it says more and counts as full. Else prove '..UptoSaid'. A law counts once. -/
mutual
def uptoBulk {H : Type} : DataW H → Nat
  | .lit (.string bytes) => bytes.length + 1
  | .lit _ => 1
  | .nil => 1
  | .ptr d => uptoBulk d + 1
  | .slice elems spare => uptoBulkAll elems + uptoBulkAll spare + 1
  | .agg parts => uptoBulkAll parts + 1
  | .iface _ d => uptoBulk d + 1
  | .map entries => uptoBulkEntries entries + 1
  | .held _ => 1
def uptoBulkAll {H : Type} : List (DataW H) → Nat
  | [] => 0
  | d :: r => uptoBulk d + uptoBulkAll r
def uptoBulkEntries {H : Type} : List (Lit × DataW H) → Nat
  | [] => 0
  | x :: r => uptoBulkEntry x + uptoBulkEntries r
def uptoBulkEntry {H : Type} : Lit × DataW H → Nat
  | (.string bytes, d) => bytes.length + uptoBulk d + 1
  | (_, d) => uptoBulk d + 1
 end
def uptoSmall : (H : Type) → List (DataW H) → Bool := fun _ ds => decide (uptoBulkAll ds ≤ 1048576)
def OpenSpec.upto (s : _root_.Go.ChangeSpec) : _root_.Go.OpenSpec := { _root_.Go.OpenSpec.ofChange s with cond := some uptoSmall }

/-- 'punnetlaw30.FinishWrites', WHERE WHAT IT READS IS OF BULK AT MOST 1048576: true; the input reads as it did. -/
def finishWritesUptoRow : OpenClaim := { program := "ytgjkkapopjpohaa", sum := "e374b986cf25f70bb24d1020e05992c88dd0274a1738beedd78d4cc50ec8f82e", func := "punnet/punnetlaw30.FinishWrites", spec := "finishWrites", apart := false, narrowed := true }
def FinishWritesUptoSaid : Prop := finishWritesUptoRow.holds Try.pinned (OpenSpec.upto finishWritesSpec)

/-- 'punnetlaw30.FinishReads', WHERE WHAT IT READS IS OF BULK AT MOST 1048576: true; the input reads as it did. -/
def finishReadsUptoRow : OpenClaim := { program := "ytgjkkapopjpohaa", sum := "e374b986cf25f70bb24d1020e05992c88dd0274a1738beedd78d4cc50ec8f82e", func := "punnet/punnetlaw30.FinishReads", spec := "finishReads", unfollowed := true, recurses := true, apart := false, narrowed := true }
def FinishReadsUptoSaid : Prop := finishReadsUptoRow.holds Try.pinned (OpenSpec.upto finishReadsSpec)

/-- 'punnetlaw30.FinishBack', WHERE WHAT IT READS IS OF BULK AT MOST 1048576: true; the input reads as it did. -/
def finishBackUptoRow : OpenClaim := { program := "ytgjkkapopjpohaa", sum := "e374b986cf25f70bb24d1020e05992c88dd0274a1738beedd78d4cc50ec8f82e", func := "punnet/punnetlaw30.FinishBack", spec := "finishBack", unfollowed := true, recurses := true, apart := false, narrowed := true }
def FinishBackUptoSaid : Prop := finishBackUptoRow.holds Try.pinned (OpenSpec.upto finishBackSpec)

end Rows
end Go.Proofs.Ytgjkkapopjpohaa
