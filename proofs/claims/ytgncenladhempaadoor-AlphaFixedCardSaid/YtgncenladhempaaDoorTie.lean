/-
  DERIVED. GIVEN WITH THE SEED: THE PROGRAM's TIES (one call each: nine closed facts by the kernel) AND EACH ROW's TIE, after the 31st guide's Derived/Test/Toyas{Tie, Card}.lean. No idea stands in it: it is a product of the set-up. Laid BY PROGRAM, IN A SANDBOX (cutbox-door.mjs). By AI agents, Wed Nov 11 2026. No macro, syntax, notation, axiom, sorry.
-/
import Derived.Test.YtgncenladhempaaDoorRows
import Derived.LaidByTextLater
import Derived.SevenTiedAt
import Derived.LaidSub
import Derived.LaidOnce
namespace Go.Proofs.YtgncenladhempaaDoor
open Go
set_option maxRecDepth 100000
theorem seatTie1 : Tryd.prog.laidByTextLater [("punnet/alpha.lengthBases", Rows.laid_punnet_alpha_lengthBases), ("punnet/alpha.lengthBits", Rows.laid_punnet_alpha_lengthBits), ("punnet/alpha.distBases", Rows.laid_punnet_alpha_distBases), ("punnet/alpha.order", Rows.laid_punnet_alpha_order)] [.data, .data, .data, .data] true :=
  Program.laidByTextLater_by_one 29 8 31 (by kernel_rfl) (by kernel_rfl) (by kernel_rfl) (by kernel_rfl) (by kernel_rfl) (by kernel_rfl) (fun _ _ => by kernel_rfl)
theorem noOwnUnsafe : Tryd.pinned.checked.prog.headLifts.contains "ownunsafe" = false := by kernel_rfl
theorem tie : Tryd.prog.laidByTextLater [("punnet/alpha.lengthBases", Rows.laid_punnet_alpha_lengthBases), ("punnet/alpha.lengthBits", Rows.laid_punnet_alpha_lengthBits), ("punnet/alpha.distBases", Rows.laid_punnet_alpha_distBases)] [.data, .data, .data] true :=
  Program.laidByTextLater.sub seatTie1 ["punnet/alpha.lengthBases", "punnet/alpha.lengthBits", "punnet/alpha.distBases"] (by kernel_rfl) (by kernel_rfl)
theorem alphaBases_row_tie : Rows.alphaBasesRow.laidByTextAt .later Tryd.pinned [.data, .data, .data] true :=
  OpenClaim.laidByTextAt_later rfl rfl tie noOwnUnsafe
theorem alphaBack_row_tie : Rows.alphaBackRow.laidByTextAt .later Tryd.pinned [.data, .data, .data] true :=
  OpenClaim.laidByTextAt_later rfl rfl tie noOwnUnsafe
theorem tie2 : Tryd.prog.laidByTextLater [("punnet/alpha.order", Rows.laid_punnet_alpha_order)] [.data] true :=
  Program.laidByTextLater.sub seatTie1 ["punnet/alpha.order"] (by kernel_rfl) (by kernel_rfl)
theorem alphaFixed_row_tie : Rows.alphaFixedRow.laidByTextAt .later Tryd.pinned [.data] true :=
  OpenClaim.laidByTextAt_later rfl rfl tie2 noOwnUnsafe
theorem alphaBasesUpto_row_tie : Rows.alphaBasesUptoRow.laidByTextAt .later Tryd.pinned [.data, .data, .data] true :=
  OpenClaim.laidByTextAt_later rfl rfl tie noOwnUnsafe
theorem alphaFixedUpto_row_tie : Rows.alphaFixedUptoRow.laidByTextAt .later Tryd.pinned [.data] true :=
  OpenClaim.laidByTextAt_later rfl rfl tie2 noOwnUnsafe
theorem alphaBackUpto_row_tie : Rows.alphaBackUptoRow.laidByTextAt .later Tryd.pinned [.data, .data, .data] true :=
  OpenClaim.laidByTextAt_later rfl rfl tie noOwnUnsafe
end Go.Proofs.YtgncenladhempaaDoor
