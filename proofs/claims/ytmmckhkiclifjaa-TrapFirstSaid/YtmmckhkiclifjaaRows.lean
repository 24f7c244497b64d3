/-
  No cell of these rows narrows 'for every input' (looked for: loops, veiled, ifaces, maps, wideKeys, modest, calm, conditions, laid).
  DERIVED. THE GIVEN ROWS OF THIS SEAT. 4 by the template 'for every input the law returns true; each argument reads behind the call as it read before'; 0 by the template 'total and deterministic' (their statements: YtmmckhkiclifjaaTotals.lean).
  GIVEN WITH THE SEED: the statements are not yours to turn. If you find one false, say at which input.
  Laid BY PROGRAM, IN A SANDBOX (cutbox-rows.mjs): the forced cells as the released guide's own fill.sh prints them over the translation e5c51f481f760b4f… (all of the seat's roots in one cut). By AI agents, Wed Nov 11 2026. No macro, syntax, notation, axiom, sorry.
-/
import Derived.Test.YtmmckhkiclifjaaChecked
import GoSem.Claim
import GoSem.ClaimJoined
import GoSem.ClaimMapViews
import Derived.JoinedTies
import Derived.KernelRfl
namespace Go.Proofs.Ytmmckhkiclifjaa
/- THE CELL 'sum', in the pinned program and in every row, IS THE sha256 OF THE DUMP (.gsa) THAT YtmmckhkiclifjaaProg.lean LOADS. Nothing in Lean hashes anything: it is a label: what it is worth is what the hold of that sum in a sandbox is worth. -/
noncomputable def Try.pinned : Pinned := { name := "ytmmckhkiclifjaa", sum := "e5c51f481f760b4fdd9ee99ce6eb77bd4b138e2d171274eb6ca0a9f0d06e91d8", checked := Try.checked }
namespace Rows
def none {H : Type} : Left H := { results := [], args := [] }

/-- 'punnetlaw01.TrapCatches': WHATEVER THE INPUT: true; the input reads as it did. -/
def trapCatchesSpec : ChangeSpec := { name := "trapCatches", fn := fun _ => fun
  | [d] => { results := [.lit (.bool true)], args := [d] }
  | _ => none }
def trapCatchesRow : OpenClaim := { program := "ytmmckhkiclifjaa", sum := "e5c51f481f760b4fdd9ee99ce6eb77bd4b138e2d171274eb6ca0a9f0d06e91d8", func := "punnet/punnetlaw01.TrapCatches", spec := "trapCatches", unfollowed := true, recurses := true, apart := false }
def TrapCatchesSaid : Prop := trapCatchesRow.holds Try.pinned (OpenSpec.ofChange trapCatchesSpec)

/-- ITS FALSE NEIGHBOUR: 'it returns false'. Refute it at one input. -/
def trapCatchesWrong : ChangeSpec := { name := "trapCatches", fn := fun _ => fun
  | [d] => { results := [.lit (.bool false)], args := [d] }
  | _ => none }
def TrapCatchesWrongFalsely : Prop := trapCatchesRow.holds Try.pinned (OpenSpec.ofChange trapCatchesWrong)

/-- 'punnetlaw01.TrapMust': WHATEVER THE INPUT: true; the input reads as it did. -/
def trapMustSpec : ChangeSpec := { name := "trapMust", fn := fun _ => fun
  | [d1, d2, d3] => { results := [.lit (.bool true)], args := [d1, d2, d3] }
  | _ => none }
def trapMustRow : OpenClaim := { program := "ytmmckhkiclifjaa", sum := "e5c51f481f760b4fdd9ee99ce6eb77bd4b138e2d171274eb6ca0a9f0d06e91d8", func := "punnet/punnetlaw01.TrapMust", spec := "trapMust", unfollowed := true, recurses := true, apart := false }
def TrapMustSaid : Prop := trapMustRow.holds Try.pinned (OpenSpec.ofChange trapMustSpec)

/-- ITS FALSE NEIGHBOUR: 'it returns false'. Refute it at one input. -/
def trapMustWrong : ChangeSpec := { name := "trapMust", fn := fun _ => fun
  | [d1, d2, d3] => { results := [.lit (.bool false)], args := [d1, d2, d3] }
  | _ => none }
def TrapMustWrongFalsely : Prop := trapMustRow.holds Try.pinned (OpenSpec.ofChange trapMustWrong)

/-- 'punnetlaw01.TrapFirst': WHATEVER THE INPUT: true; the input reads as it did. -/
def trapFirstSpec : ChangeSpec := { name := "trapFirst", fn := fun _ => fun
  | [d] => { results := [.lit (.bool true)], args := [d] }
  | _ => none }
def trapFirstRow : OpenClaim := { program := "ytmmckhkiclifjaa", sum := "e5c51f481f760b4fdd9ee99ce6eb77bd4b138e2d171274eb6ca0a9f0d06e91d8", func := "punnet/punnetlaw01.TrapFirst", spec := "trapFirst", unfollowed := true, recurses := true, apart := false }
def TrapFirstSaid : Prop := trapFirstRow.holds Try.pinned (OpenSpec.ofChange trapFirstSpec)

/-- ITS FALSE NEIGHBOUR: 'it returns false'. Refute it at one input. -/
def trapFirstWrong : ChangeSpec := { name := "trapFirst", fn := fun _ => fun
  | [d] => { results := [.lit (.bool false)], args := [d] }
  | _ => none }
def TrapFirstWrongFalsely : Prop := trapFirstRow.holds Try.pinned (OpenSpec.ofChange trapFirstWrong)

/-- 'punnetlaw01.TrapAlways': WHATEVER THE INPUT: true; the input reads as it did. -/
def trapAlwaysSpec : ChangeSpec := { name := "trapAlways", fn := fun _ => fun
  | [d] => { results := [.lit (.bool true)], args := [d] }
  | _ => none }
def trapAlwaysRow : OpenClaim := { program := "ytmmckhkiclifjaa", sum := "e5c51f481f760b4fdd9ee99ce6eb77bd4b138e2d171274eb6ca0a9f0d06e91d8", func := "punnet/punnetlaw01.TrapAlways", spec := "trapAlways", unfollowed := true, recurses := true, apart := false }
def TrapAlwaysSaid : Prop := trapAlwaysRow.holds Try.pinned (OpenSpec.ofChange trapAlwaysSpec)

/-- ITS FALSE NEIGHBOUR: 'it returns false'. Refute it at one input. -/
def trapAlwaysWrong : ChangeSpec := { name := "trapAlways", fn := fun _ => fun
  | [d] => { results := [.lit (.bool false)], args := [d] }
  | _ => none }
def TrapAlwaysWrongFalsely : Prop := trapAlwaysRow.holds Try.pinned (OpenSpec.ofChange trapAlwaysWrong)

/- THE SECOND FORM. 'bulk': how many values and letters a reading holds, each counted each time it is reached (what is shared counts as often as it is met; a slice's spare places count too). A statement '..UptoSaid' is the law's where the arguments, and the package variables that the reading takes, are together of bulk at most 1048576: NARROWER than '..Said'. Prove '..Said' where nothing that the law and all that it calls make is longer than what came in: it says more and counts as full. Else prove '..UptoSaid'. A law counts once. -/
mutual
def uptoBulk {H : Type} : DataW H → Nat
  | .lit (.string bytes) => bytes.length + 1
  | .lit _ => 1
  | .nil => 1
  | .ptr d => uptoBulk d + 1
  | .slice elems spare => uptoBulkAll elems + uptoBulkAll spare + 1
  | .agg parts => uptoBulkAll parts + 1
  | .iface _ d => uptoBulk d + 1
  | .map entries => uptoBulkEntries entries + 1
  | .held _ => 1
def uptoBulkAll {H : Type} : List (DataW H) → Nat
  | [] => 0
  | d :: r => uptoBulk d + uptoBulkAll r
def uptoBulkEntries {H : Type} : List (Lit × DataW H) → Nat
  | [] => 0
  | x :: r => uptoBulkEntry x + uptoBulkEntries r
def uptoBulkEntry {H : Type} : Lit × DataW H → Nat
  | (.string bytes, d) => bytes.length + uptoBulk d + 1
  | (_, d) => uptoBulk d + 1
 end
def uptoSmall : (H : Type) → List (DataW H) → Bool := fun _ ds => decide (uptoBulkAll ds ≤ 1048576)
def OpenSpec.upto (s : _root_.Go.ChangeSpec) : _root_.Go.OpenSpec := { _root_.Go.OpenSpec.ofChange s with cond := some uptoSmall }

/-- 'punnetlaw01.TrapCatches', WHERE WHAT IT READS IS OF BULK AT MOST 1048576: true; the input reads as it did. -/
def trapCatchesUptoRow : OpenClaim := { program := "ytmmckhkiclifjaa", sum := "e5c51f481f760b4fdd9ee99ce6eb77bd4b138e2d171274eb6ca0a9f0d06e91d8", func := "punnet/punnetlaw01.TrapCatches", spec := "trapCatches", unfollowed := true, recurses := true, apart := false, narrowed := true }
def TrapCatchesUptoSaid : Prop := trapCatchesUptoRow.holds Try.pinned (OpenSpec.upto trapCatchesSpec)

/-- 'punnetlaw01.TrapMust', WHERE WHAT IT READS IS OF BULK AT MOST 1048576: true; the input reads as it did. -/
def trapMustUptoRow : OpenClaim := { program := "ytmmckhkiclifjaa", sum := "e5c51f481f760b4fdd9ee99ce6eb77bd4b138e2d171274eb6ca0a9f0d06e91d8", func := "punnet/punnetlaw01.TrapMust", spec := "trapMust", unfollowed := true, recurses := true, apart := false, narrowed := true }
def TrapMustUptoSaid : Prop := trapMustUptoRow.holds Try.pinned (OpenSpec.upto trapMustSpec)

/-- 'punnetlaw01.TrapFirst', WHERE WHAT IT READS IS OF BULK AT MOST 1048576: true; the input reads as it did. -/
def trapFirstUptoRow : OpenClaim := { program := "ytmmckhkiclifjaa", sum := "e5c51f481f760b4fdd9ee99ce6eb77bd4b138e2d171274eb6ca0a9f0d06e91d8", func := "punnet/punnetlaw01.TrapFirst", spec := "trapFirst", unfollowed := true, recurses := true, apart := false, narrowed := true }
def TrapFirstUptoSaid : Prop := trapFirstUptoRow.holds Try.pinned (OpenSpec.upto trapFirstSpec)

/-- 'punnetlaw01.TrapAlways', WHERE WHAT IT READS IS OF BULK AT MOST 1048576: true; the input reads as it did. -/
def trapAlwaysUptoRow : OpenClaim := { program := "ytmmckhkiclifjaa", sum := "e5c51f481f760b4fdd9ee99ce6eb77bd4b138e2d171274eb6ca0a9f0d06e91d8", func := "punnet/punnetlaw01.TrapAlways", spec := "trapAlways", unfollowed := true, recurses := true, apart := false, narrowed := true }
def TrapAlwaysUptoSaid : Prop := trapAlwaysUptoRow.holds Try.pinned (OpenSpec.upto trapAlwaysSpec)

end Rows
end Go.Proofs.Ytmmckhkiclifjaa
