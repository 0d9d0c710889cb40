/-
  DERIVED. GIVEN WITH THE SEED: THE CARDS: each row of YtjplemfdhhkbaaaGreatDoorRows.lean that lists a variable, with what it lists TIED to the program's text (the seventh form; the later family's looks); each row that meets fmt, with fmt's text TOLD by the authors' own Lean function (tested against real Go, not proved from fmt's source: count such statements apart). THE CARD IS WHAT COUNTS. Prove the row's statement (the work); the ties are given (YtjplemfdhhkbaaaGreatDoorTie.lean); close each card by the builder's one call (the guide's Derived/Test/ToyasCard.lean, 'card_holds'). Laid BY PROGRAM, IN A SANDBOX (cutbox-door.mjs). By AI agents, Wed Nov 11 2026. No macro, syntax, notation, axiom, sorry.
-/
import Derived.Test.YtjplemfdhhkbaaaGreatDoorRows
import GoSem.ClaimSeven
namespace Go.Proofs.YtjplemfdhhkbaaaGreatDoor
namespace Rows

/-- THE TIED CARD OF 'ulplaw.ProdSays'. -/
def prodSaysCard : Claim7 := { stood := { row := prodSaysRow, standIns := [], harness := (true, "14002465f45e354049930c473cf83d4e44bfbf5297dbdaf11c8c9d33fbf6d48a"), looks := false }, kinds := [], alts := [], laidByText := true, laidKinds := [.data], laidTests := true, laidLooks := .later }
def ProdSaysCardSaid : Prop := Claim7.holds Tryz.pinned (.plain (OpenSpec.ofChange prodSaysSpec)) prodSaysCard

/-- THE SECOND FORM's CARD OF 'ulplaw.ProdSays'. -/
def prodSaysUptoCard : Claim7 := { stood := { row := prodSaysUptoRow, standIns := [], harness := (true, "14002465f45e354049930c473cf83d4e44bfbf5297dbdaf11c8c9d33fbf6d48a"), looks := false }, kinds := [], alts := [], laidByText := true, laidKinds := [.data], laidTests := true, laidLooks := .later }
def ProdSaysUptoCardSaid : Prop := Claim7.holds Tryz.pinned (.plain (OpenSpec.upto prodSaysSpec)) prodSaysUptoCard
end Rows
end Go.Proofs.YtjplemfdhhkbaaaGreatDoor
