/-
  DERIVED. GIVEN WITH THE SEED: THE CARDS: each row of YtgncenladhempaaDoorRows.lean that lists a variable, with what it lists TIED to the program's text (the seventh form; the later family's looks); each row that meets fmt, with fmt's text TOLD by the authors' own Lean function (tested against real Go, not proved from fmt's source: count such statements apart). THE CARD IS WHAT COUNTS. Prove the row's statement (the work); the ties are given (YtgncenladhempaaDoorTie.lean); close each card by the builder's one call (the guide's Derived/Test/ToyasCard.lean, 'card_holds'). Laid BY PROGRAM, IN A SANDBOX (cutbox-door.mjs). By AI agents, Wed Nov 11 2026. No macro, syntax, notation, axiom, sorry.
-/
import Derived.Test.YtgncenladhempaaDoorRows
import GoSem.ClaimSeven
namespace Go.Proofs.YtgncenladhempaaDoor
namespace Rows

/-- THE TIED CARD OF 'punnetlaw10.AlphaBases'. -/
def alphaBasesCard : Claim7 := { stood := { row := alphaBasesRow, standIns := [], harness := (true, "561e91893fe19d3b843b8588fd078f77e772690c527e03d04a225150b03c1ff1"), looks := false }, kinds := [], alts := [], laidByText := true, laidKinds := [.data, .data, .data], laidTests := true, laidLooks := .later }
def AlphaBasesCardSaid : Prop := Claim7.holds Tryd.pinned (.plain (OpenSpec.ofChange alphaBasesSpec)) alphaBasesCard

/-- THE TIED CARD OF 'punnetlaw10.AlphaFixed'. -/
def alphaFixedCard : Claim7 := { stood := { row := alphaFixedRow, standIns := [], harness := (true, "561e91893fe19d3b843b8588fd078f77e772690c527e03d04a225150b03c1ff1"), looks := false }, kinds := [], alts := [], laidByText := true, laidKinds := [.data], laidTests := true, laidLooks := .later }
def AlphaFixedCardSaid : Prop := Claim7.holds Tryd.pinned (.plain (OpenSpec.ofChange alphaFixedSpec)) alphaFixedCard

/-- THE TIED CARD OF 'punnetlaw10.AlphaBack'. -/
def alphaBackCard : Claim7 := { stood := { row := alphaBackRow, standIns := [], harness := (true, "561e91893fe19d3b843b8588fd078f77e772690c527e03d04a225150b03c1ff1"), looks := false }, kinds := [], alts := [], laidByText := true, laidKinds := [.data, .data, .data], laidTests := true, laidLooks := .later }
def AlphaBackCardSaid : Prop := Claim7.holds Tryd.pinned (.plain (OpenSpec.ofChange alphaBackSpec)) alphaBackCard

/-- THE SECOND FORM's CARD OF 'punnetlaw10.AlphaBases'. -/
def alphaBasesUptoCard : Claim7 := { stood := { row := alphaBasesUptoRow, standIns := [], harness := (true, "561e91893fe19d3b843b8588fd078f77e772690c527e03d04a225150b03c1ff1"), looks := false }, kinds := [], alts := [], laidByText := true, laidKinds := [.data, .data, .data], laidTests := true, laidLooks := .later }
def AlphaBasesUptoCardSaid : Prop := Claim7.holds Tryd.pinned (.plain (OpenSpec.upto alphaBasesSpec)) alphaBasesUptoCard

/-- THE SECOND FORM's CARD OF 'punnetlaw10.AlphaFixed'. -/
def alphaFixedUptoCard : Claim7 := { stood := { row := alphaFixedUptoRow, standIns := [], harness := (true, "561e91893fe19d3b843b8588fd078f77e772690c527e03d04a225150b03c1ff1"), looks := false }, kinds := [], alts := [], laidByText := true, laidKinds := [.data], laidTests := true, laidLooks := .later }
def AlphaFixedUptoCardSaid : Prop := Claim7.holds Tryd.pinned (.plain (OpenSpec.upto alphaFixedSpec)) alphaFixedUptoCard

/-- THE SECOND FORM's CARD OF 'punnetlaw10.AlphaBack'. -/
def alphaBackUptoCard : Claim7 := { stood := { row := alphaBackUptoRow, standIns := [], harness := (true, "561e91893fe19d3b843b8588fd078f77e772690c527e03d04a225150b03c1ff1"), looks := false }, kinds := [], alts := [], laidByText := true, laidKinds := [.data, .data, .data], laidTests := true, laidLooks := .later }
def AlphaBackUptoCardSaid : Prop := Claim7.holds Tryd.pinned (.plain (OpenSpec.upto alphaBackSpec)) alphaBackUptoCard
end Rows
end Go.Proofs.YtgncenladhempaaDoor
