/-
  DERIVED. GIVEN WITH THE SEED: THE CARDS: each row of YtdpiaabmgdhekaaDoorRows.lean that lists a variable, with what it lists TIED to the program's text (the seventh form; the later family's looks); each row that meets fmt, with fmt's text TOLD by the authors' own Lean function (tested against real Go, not proved from fmt's source: count such statements apart). THE CARD IS WHAT COUNTS. Prove the row's statement (the work); the ties are given (YtdpiaabmgdhekaaDoorTie.lean); close each card by the builder's one call (the guide's Derived/Test/ToyasCard.lean, 'card_holds'). Laid BY PROGRAM, IN A SANDBOX (cutbox-door.mjs). By AI agents, Wed Nov 11 2026. No macro, syntax, notation, axiom, sorry.
-/
import Derived.Test.YtdpiaabmgdhekaaDoorRows
import GoSem.ClaimSeven
namespace Go.Proofs.YtdpiaabmgdhekaaDoor
namespace Rows

/-- THE TIED CARD OF 'punnetlaw27.LocalWrites'. -/
def localWritesCard : Claim7 := { stood := { row := localWritesRow, standIns := [], harness := (true, "88dd1f70a1219e16588789b1159d5ecbdbfc68bb26d13095164674a6e4ba440e"), looks := true }, kinds := [], alts := [], laidByText := true, laidKinds := [.data, .pinned], laidTests := true, laidLooks := .later }
def LocalWritesCardSaid : Prop := Claim7.holds Tryd.pinned (.plain (OpenSpec.ofChange localWritesSpec)) localWritesCard

/-- THE TIED CARD OF 'punnetlaw27.LocalReads'. -/
def localReadsCard : Claim7 := { stood := { row := localReadsRow, standIns := [], harness := (true, "88dd1f70a1219e16588789b1159d5ecbdbfc68bb26d13095164674a6e4ba440e"), looks := true }, kinds := [], alts := [], laidByText := true, laidKinds := [.data, .pinned], laidTests := true, laidLooks := .later }
def LocalReadsCardSaid : Prop := Claim7.holds Tryd.pinned (.plain (OpenSpec.ofChange localReadsSpec)) localReadsCard

/-- THE TIED CARD OF 'punnetlaw27.LocalBack'. -/
def localBackCard : Claim7 := { stood := { row := localBackRow, standIns := [], harness := (true, "88dd1f70a1219e16588789b1159d5ecbdbfc68bb26d13095164674a6e4ba440e"), looks := true }, kinds := [], alts := [], laidByText := true, laidKinds := [.data, .pinned], laidTests := true, laidLooks := .later }
def LocalBackCardSaid : Prop := Claim7.holds Tryd.pinned (.plain (OpenSpec.ofChange localBackSpec)) localBackCard

/-- THE SECOND FORM's CARD OF 'punnetlaw27.LocalWrites'. -/
def localWritesUptoCard : Claim7 := { stood := { row := localWritesUptoRow, standIns := [], harness := (true, "88dd1f70a1219e16588789b1159d5ecbdbfc68bb26d13095164674a6e4ba440e"), looks := true }, kinds := [], alts := [], laidByText := true, laidKinds := [.data, .pinned], laidTests := true, laidLooks := .later }
def LocalWritesUptoCardSaid : Prop := Claim7.holds Tryd.pinned (.plain (OpenSpec.upto localWritesSpec)) localWritesUptoCard

/-- THE SECOND FORM's CARD OF 'punnetlaw27.LocalReads'. -/
def localReadsUptoCard : Claim7 := { stood := { row := localReadsUptoRow, standIns := [], harness := (true, "88dd1f70a1219e16588789b1159d5ecbdbfc68bb26d13095164674a6e4ba440e"), looks := true }, kinds := [], alts := [], laidByText := true, laidKinds := [.data, .pinned], laidTests := true, laidLooks := .later }
def LocalReadsUptoCardSaid : Prop := Claim7.holds Tryd.pinned (.plain (OpenSpec.upto localReadsSpec)) localReadsUptoCard

/-- THE SECOND FORM's CARD OF 'punnetlaw27.LocalBack'. -/
def localBackUptoCard : Claim7 := { stood := { row := localBackUptoRow, standIns := [], harness := (true, "88dd1f70a1219e16588789b1159d5ecbdbfc68bb26d13095164674a6e4ba440e"), looks := true }, kinds := [], alts := [], laidByText := true, laidKinds := [.data, .pinned], laidTests := true, laidLooks := .later }
def LocalBackUptoCardSaid : Prop := Claim7.holds Tryd.pinned (.plain (OpenSpec.upto localBackSpec)) localBackUptoCard
end Rows
end Go.Proofs.YtdpiaabmgdhekaaDoor
