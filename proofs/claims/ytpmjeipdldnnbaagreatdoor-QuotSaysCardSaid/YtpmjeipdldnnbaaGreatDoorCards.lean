/-
  DERIVED. GIVEN WITH THE SEED: THE CARDS: each row of YtpmjeipdldnnbaaGreatDoorRows.lean that lists a variable, with what it lists TIED to the program's text (the seventh form; the later family's looks); each row that meets fmt, with fmt's text TOLD by the authors' own Lean function (tested against real Go, not proved from fmt's source: count such statements apart). THE CARD IS WHAT COUNTS. Prove the row's statement (the work); the ties are given (YtpmjeipdldnnbaaGreatDoorTie.lean); close each card by the builder's one call (the guide's Derived/Test/ToyasCard.lean, 'card_holds'). Laid BY PROGRAM, IN A SANDBOX (cutbox-door.mjs). By AI agents, Wed Nov 11 2026. No macro, syntax, notation, axiom, sorry.
-/
import Derived.Test.YtpmjeipdldnnbaaGreatDoorRows
import GoSem.ClaimSeven
namespace Go.Proofs.YtpmjeipdldnnbaaGreatDoor
namespace Rows

/-- THE TIED CARD OF 'ulplaw.QuotSays'. -/
def quotSaysCard : Claim7 := { stood := { row := quotSaysRow, standIns := [], harness := (true, "643c5385ee837f0ae91b3898bcfe543f7f51e94a537216c89129e87706e33745"), looks := false }, kinds := [], alts := [], laidByText := true, laidKinds := [.data], laidTests := true, laidLooks := .later }
def QuotSaysCardSaid : Prop := Claim7.holds Tryz.pinned (.plain (OpenSpec.ofChange quotSaysSpec)) quotSaysCard

/-- THE SECOND FORM's CARD OF 'ulplaw.QuotSays'. -/
def quotSaysUptoCard : Claim7 := { stood := { row := quotSaysUptoRow, standIns := [], harness := (true, "643c5385ee837f0ae91b3898bcfe543f7f51e94a537216c89129e87706e33745"), looks := false }, kinds := [], alts := [], laidByText := true, laidKinds := [.data], laidTests := true, laidLooks := .later }
def QuotSaysUptoCardSaid : Prop := Claim7.holds Tryz.pinned (.plain (OpenSpec.upto quotSaysSpec)) quotSaysUptoCard
end Rows
end Go.Proofs.YtpmjeipdldnnbaaGreatDoor
