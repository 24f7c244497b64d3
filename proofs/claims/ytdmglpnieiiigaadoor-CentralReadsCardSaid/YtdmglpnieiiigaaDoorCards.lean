/-
  DERIVED. GIVEN WITH THE SEED: THE CARDS: each row of YtdmglpnieiiigaaDoorRows.lean that lists a variable, with what it lists TIED to the program's text (the seventh form; the later family's looks); each row that meets fmt, with fmt's text TOLD by the authors' own Lean function (tested against real Go, not proved from fmt's source: count such statements apart). THE CARD IS WHAT COUNTS. Prove the row's statement (the work); the ties are given (YtdmglpnieiiigaaDoorTie.lean); close each card by the builder's one call (the guide's Derived/Test/ToyasCard.lean, 'card_holds'). Laid BY PROGRAM, IN A SANDBOX (cutbox-door.mjs). By AI agents, Wed Nov 11 2026. No macro, syntax, notation, axiom, sorry.
-/
import Derived.Test.YtdmglpnieiiigaaDoorRows
import GoSem.ClaimSeven
namespace Go.Proofs.YtdmglpnieiiigaaDoor
namespace Rows

/-- THE TIED CARD OF 'punnetlaw29.CentralWrites'. -/
def centralWritesCard : Claim7 := { stood := { row := centralWritesRow, standIns := [], harness := (true, "3920fa4c2e5195fbee675ea9ae949d1a3896b1f2c1d7aa5a43202c080ef8b842"), looks := true }, kinds := [], alts := [], laidByText := true, laidKinds := [.data, .pinned], laidTests := true, laidLooks := .later }
def CentralWritesCardSaid : Prop := Claim7.holds Tryd.pinned (.plain (OpenSpec.ofChange centralWritesSpec)) centralWritesCard

/-- THE TIED CARD OF 'punnetlaw29.CentralReads'. -/
def centralReadsCard : Claim7 := { stood := { row := centralReadsRow, standIns := [], harness := (true, "3920fa4c2e5195fbee675ea9ae949d1a3896b1f2c1d7aa5a43202c080ef8b842"), looks := true }, kinds := [], alts := [], laidByText := true, laidKinds := [.data, .pinned], laidTests := true, laidLooks := .later }
def CentralReadsCardSaid : Prop := Claim7.holds Tryd.pinned (.plain (OpenSpec.ofChange centralReadsSpec)) centralReadsCard

/-- THE TIED CARD OF 'punnetlaw29.CentralBack'. -/
def centralBackCard : Claim7 := { stood := { row := centralBackRow, standIns := [], harness := (true, "3920fa4c2e5195fbee675ea9ae949d1a3896b1f2c1d7aa5a43202c080ef8b842"), looks := true }, kinds := [], alts := [], laidByText := true, laidKinds := [.data, .pinned], laidTests := true, laidLooks := .later }
def CentralBackCardSaid : Prop := Claim7.holds Tryd.pinned (.plain (OpenSpec.ofChange centralBackSpec)) centralBackCard

/-- THE SECOND FORM's CARD OF 'punnetlaw29.CentralWrites'. -/
def centralWritesUptoCard : Claim7 := { stood := { row := centralWritesUptoRow, standIns := [], harness := (true, "3920fa4c2e5195fbee675ea9ae949d1a3896b1f2c1d7aa5a43202c080ef8b842"), looks := true }, kinds := [], alts := [], laidByText := true, laidKinds := [.data, .pinned], laidTests := true, laidLooks := .later }
def CentralWritesUptoCardSaid : Prop := Claim7.holds Tryd.pinned (.plain (OpenSpec.upto centralWritesSpec)) centralWritesUptoCard

/-- THE SECOND FORM's CARD OF 'punnetlaw29.CentralReads'. -/
def centralReadsUptoCard : Claim7 := { stood := { row := centralReadsUptoRow, standIns := [], harness := (true, "3920fa4c2e5195fbee675ea9ae949d1a3896b1f2c1d7aa5a43202c080ef8b842"), looks := true }, kinds := [], alts := [], laidByText := true, laidKinds := [.data, .pinned], laidTests := true, laidLooks := .later }
def CentralReadsUptoCardSaid : Prop := Claim7.holds Tryd.pinned (.plain (OpenSpec.upto centralReadsSpec)) centralReadsUptoCard

/-- THE SECOND FORM's CARD OF 'punnetlaw29.CentralBack'. -/
def centralBackUptoCard : Claim7 := { stood := { row := centralBackUptoRow, standIns := [], harness := (true, "3920fa4c2e5195fbee675ea9ae949d1a3896b1f2c1d7aa5a43202c080ef8b842"), looks := true }, kinds := [], alts := [], laidByText := true, laidKinds := [.data, .pinned], laidTests := true, laidLooks := .later }
def CentralBackUptoCardSaid : Prop := Claim7.holds Tryd.pinned (.plain (OpenSpec.upto centralBackSpec)) centralBackUptoCard
end Rows
end Go.Proofs.YtdmglpnieiiigaaDoor
