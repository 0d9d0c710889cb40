/-
  DERIVED. GIVEN WITH THE SEED: THE CARDS: each row of YtejglcpiihkenaaGreatDoorRows.lean that lists a variable, with what it lists TIED to the program's text (the seventh form; the later family's looks); each row that meets fmt, with fmt's text TOLD by the authors' own Lean function (tested against real Go, not proved from fmt's source: count such statements apart). THE CARD IS WHAT COUNTS. Prove the row's statement (the work); the ties are given (YtejglcpiihkenaaGreatDoorTie.lean); close each card by the builder's one call (the guide's Derived/Test/ToyasCard.lean, 'card_holds'). Laid BY PROGRAM, IN A SANDBOX (cutbox-door.mjs). By AI agents, Wed Nov 11 2026. No macro, syntax, notation, axiom, sorry.
-/
import Derived.Test.YtejglcpiihkenaaGreatDoorRows
import GoSem.ClaimSeven
namespace Go.Proofs.YtejglcpiihkenaaGreatDoor
namespace Rows

/-- THE TIED CARD OF 'ulplaw.ExactSays'. -/
def exactSaysCard : Claim7 := { stood := { row := exactSaysRow, standIns := [], harness := (true, "b41b25d44ea332111b0cba16e0a07a3764c16855449a28bc0cacac44a16b76c7"), looks := false }, kinds := [], alts := [], laidByText := true, laidKinds := [.data], laidTests := true, laidLooks := .later }
def ExactSaysCardSaid : Prop := Claim7.holds Tryz.pinned (.plain (OpenSpec.ofChange exactSaysSpec)) exactSaysCard

/-- THE TIED CARD OF 'ulplaw.ExactSplits'. -/
def exactSplitsCard : Claim7 := { stood := { row := exactSplitsRow, standIns := [], harness := (true, "b41b25d44ea332111b0cba16e0a07a3764c16855449a28bc0cacac44a16b76c7"), looks := false }, kinds := [], alts := [], laidByText := true, laidKinds := [.data], laidTests := true, laidLooks := .later }
def ExactSplitsCardSaid : Prop := Claim7.holds Tryz.pinned (.plain (OpenSpec.ofChange exactSplitsSpec)) exactSplitsCard

/-- THE SECOND FORM's CARD OF 'ulplaw.ExactSays'. -/
def exactSaysUptoCard : Claim7 := { stood := { row := exactSaysUptoRow, standIns := [], harness := (true, "b41b25d44ea332111b0cba16e0a07a3764c16855449a28bc0cacac44a16b76c7"), looks := false }, kinds := [], alts := [], laidByText := true, laidKinds := [.data], laidTests := true, laidLooks := .later }
def ExactSaysUptoCardSaid : Prop := Claim7.holds Tryz.pinned (.plain (OpenSpec.upto exactSaysSpec)) exactSaysUptoCard

/-- THE SECOND FORM's CARD OF 'ulplaw.ExactSplits'. -/
def exactSplitsUptoCard : Claim7 := { stood := { row := exactSplitsUptoRow, standIns := [], harness := (true, "b41b25d44ea332111b0cba16e0a07a3764c16855449a28bc0cacac44a16b76c7"), looks := false }, kinds := [], alts := [], laidByText := true, laidKinds := [.data], laidTests := true, laidLooks := .later }
def ExactSplitsUptoCardSaid : Prop := Claim7.holds Tryz.pinned (.plain (OpenSpec.upto exactSplitsSpec)) exactSplitsUptoCard
end Rows
end Go.Proofs.YtejglcpiihkenaaGreatDoor
