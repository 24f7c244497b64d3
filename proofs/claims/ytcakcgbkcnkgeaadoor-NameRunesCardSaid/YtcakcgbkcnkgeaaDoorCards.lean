/-
  DERIVED. GIVEN WITH THE SEED: THE CARDS: each row of YtcakcgbkcnkgeaaDoorRows.lean that lists a variable, with what it lists TIED to the program's text (the seventh form; the later family's looks); each row that meets fmt, with fmt's text TOLD by the authors' own Lean function (tested against real Go, not proved from fmt's source: count such statements apart). THE CARD IS WHAT COUNTS. Prove the row's statement (the work); the ties are given (YtcakcgbkcnkgeaaDoorTie.lean); close each card by the builder's one call (the guide's Derived/Test/ToyasCard.lean, 'card_holds'). Laid BY PROGRAM, IN A SANDBOX (cutbox-door.mjs). By AI agents, Wed Nov 11 2026. No macro, syntax, notation, axiom, sorry.
-/
import Derived.Test.YtcakcgbkcnkgeaaDoorRows
import GoSem.ClaimSeven
namespace Go.Proofs.YtcakcgbkcnkgeaaDoor
namespace Rows

/-- THE TIED CARD OF 'punnetlaw26.NameChecks'. -/
def nameChecksCard : Claim7 := { stood := { row := nameChecksRow, standIns := [], harness := (true, "f3db506efe61e7136c852d6f611248c7a5c8d49002e431721f3d80ec4d9e42cf"), looks := false }, kinds := [], alts := [], laidByText := true, laidKinds := [.data, .pinned], laidTests := true, laidLooks := .later }
def NameChecksCardSaid : Prop := Claim7.holds Tryd.pinned (.plain (OpenSpec.ofChange nameChecksSpec)) nameChecksCard

/-- THE TIED CARD OF 'punnetlaw26.NameRunes'. -/
def nameRunesCard : Claim7 := { stood := { row := nameRunesRow, standIns := [], harness := (true, "f3db506efe61e7136c852d6f611248c7a5c8d49002e431721f3d80ec4d9e42cf"), looks := false }, kinds := [], alts := [], laidByText := true, laidKinds := [.data, .pinned], laidTests := true, laidLooks := .later }
def NameRunesCardSaid : Prop := Claim7.holds Tryd.pinned (.plain (OpenSpec.ofChange nameRunesSpec)) nameRunesCard

/-- THE TIED CARD OF 'punnetlaw26.NameParts'. -/
def namePartsCard : Claim7 := { stood := { row := namePartsRow, standIns := [], harness := (true, "f3db506efe61e7136c852d6f611248c7a5c8d49002e431721f3d80ec4d9e42cf"), looks := false }, kinds := [], alts := [], laidByText := true, laidKinds := [.data, .pinned], laidTests := true, laidLooks := .later }
def NamePartsCardSaid : Prop := Claim7.holds Tryd.pinned (.plain (OpenSpec.ofChange namePartsSpec)) namePartsCard

/-- THE TIED CARD OF 'punnetlaw26.NameLess'. -/
def nameLessCard : Claim7 := { stood := { row := nameLessRow, standIns := [], harness := (true, "f3db506efe61e7136c852d6f611248c7a5c8d49002e431721f3d80ec4d9e42cf"), looks := false }, kinds := [], alts := [], laidByText := true, laidKinds := [.data, .pinned], laidTests := true, laidLooks := .later }
def NameLessCardSaid : Prop := Claim7.holds Tryd.pinned (.plain (OpenSpec.ofChange nameLessSpec)) nameLessCard

/-- THE SECOND FORM's CARD OF 'punnetlaw26.NameChecks'. -/
def nameChecksUptoCard : Claim7 := { stood := { row := nameChecksUptoRow, standIns := [], harness := (true, "f3db506efe61e7136c852d6f611248c7a5c8d49002e431721f3d80ec4d9e42cf"), looks := false }, kinds := [], alts := [], laidByText := true, laidKinds := [.data, .pinned], laidTests := true, laidLooks := .later }
def NameChecksUptoCardSaid : Prop := Claim7.holds Tryd.pinned (.plain (OpenSpec.upto nameChecksSpec)) nameChecksUptoCard

/-- THE SECOND FORM's CARD OF 'punnetlaw26.NameRunes'. -/
def nameRunesUptoCard : Claim7 := { stood := { row := nameRunesUptoRow, standIns := [], harness := (true, "f3db506efe61e7136c852d6f611248c7a5c8d49002e431721f3d80ec4d9e42cf"), looks := false }, kinds := [], alts := [], laidByText := true, laidKinds := [.data, .pinned], laidTests := true, laidLooks := .later }
def NameRunesUptoCardSaid : Prop := Claim7.holds Tryd.pinned (.plain (OpenSpec.upto nameRunesSpec)) nameRunesUptoCard

/-- THE SECOND FORM's CARD OF 'punnetlaw26.NameParts'. -/
def namePartsUptoCard : Claim7 := { stood := { row := namePartsUptoRow, standIns := [], harness := (true, "f3db506efe61e7136c852d6f611248c7a5c8d49002e431721f3d80ec4d9e42cf"), looks := false }, kinds := [], alts := [], laidByText := true, laidKinds := [.data, .pinned], laidTests := true, laidLooks := .later }
def NamePartsUptoCardSaid : Prop := Claim7.holds Tryd.pinned (.plain (OpenSpec.upto namePartsSpec)) namePartsUptoCard

/-- THE SECOND FORM's CARD OF 'punnetlaw26.NameLess'. -/
def nameLessUptoCard : Claim7 := { stood := { row := nameLessUptoRow, standIns := [], harness := (true, "f3db506efe61e7136c852d6f611248c7a5c8d49002e431721f3d80ec4d9e42cf"), looks := false }, kinds := [], alts := [], laidByText := true, laidKinds := [.data, .pinned], laidTests := true, laidLooks := .later }
def NameLessUptoCardSaid : Prop := Claim7.holds Tryd.pinned (.plain (OpenSpec.upto nameLessSpec)) nameLessUptoCard
end Rows
end Go.Proofs.YtcakcgbkcnkgeaaDoor
