/-
  DERIVED. GIVEN WITH THE SEED: THE CARDS: each row of YtelblhgagpkjmaaGreatDoorRows.lean that lists a variable, with what it lists TIED to the program's text (the seventh form; the later family's looks); each row that meets fmt, with fmt's text TOLD by the authors' own Lean function (tested against real Go, not proved from fmt's source: count such statements apart). THE CARD IS WHAT COUNTS. Prove the row's statement (the work); the ties are given (YtelblhgagpkjmaaGreatDoorTie.lean); close each card by the builder's one call (the guide's Derived/Test/ToyasCard.lean, 'card_holds'). Laid BY PROGRAM, IN A SANDBOX (cutbox-door.mjs). By AI agents, Wed Nov 11 2026. No macro, syntax, notation, axiom, sorry.
-/
import Derived.Test.YtelblhgagpkjmaaGreatDoorRows
import GoSem.ClaimSeven
namespace Go.Proofs.YtelblhgagpkjmaaGreatDoor
namespace Rows

/-- THE TIED CARD OF 'ulplaw.GrowSays'. -/
def growSaysCard : Claim7 := { stood := { row := growSaysRow, standIns := [], harness := (true, "e5948a7dc59b920efca6dfd557c0dbde95fd82371624aab8c573ab6ee7bf69f5"), looks := false }, kinds := [], alts := [], laidByText := true, laidKinds := [.data], laidTests := true, laidLooks := .later }
def GrowSaysCardSaid : Prop := Claim7.holds Tryz.pinned (.plain (OpenSpec.ofChange growSaysSpec)) growSaysCard

/-- THE SECOND FORM's CARD OF 'ulplaw.GrowSays'. -/
def growSaysUptoCard : Claim7 := { stood := { row := growSaysUptoRow, standIns := [], harness := (true, "e5948a7dc59b920efca6dfd557c0dbde95fd82371624aab8c573ab6ee7bf69f5"), looks := false }, kinds := [], alts := [], laidByText := true, laidKinds := [.data], laidTests := true, laidLooks := .later }
def GrowSaysUptoCardSaid : Prop := Claim7.holds Tryz.pinned (.plain (OpenSpec.upto growSaysSpec)) growSaysUptoCard
end Rows
end Go.Proofs.YtelblhgagpkjmaaGreatDoor
