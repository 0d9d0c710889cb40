/-
  DERIVED. GIVEN WITH THE SEED: THE CARDS: each row of YtpmpkllpaceloaaDoorRows.lean that lists a variable, with what it lists TIED to the program's text (the seventh form; the later family's looks); each row that meets fmt, with fmt's text TOLD by the authors' own Lean function (tested against real Go, not proved from fmt's source: count such statements apart). THE CARD IS WHAT COUNTS. Prove the row's statement (the work); the ties are given (YtpmpkllpaceloaaDoorTie.lean); close each card by the builder's one call (the guide's Derived/Test/ToyasCard.lean, 'card_holds'). Laid BY PROGRAM, IN A SANDBOX (cutbox-door.mjs). By AI agents, Wed Nov 11 2026. No macro, syntax, notation, axiom, sorry.
-/
import Derived.Test.YtpmpkllpaceloaaDoorRows
import GoSem.ClaimSeven
namespace Go.Proofs.YtpmpkllpaceloaaDoor
namespace Rows

/-- THE TIED CARD OF 'ulplaw.WholeSays'. -/
def wholeSaysCard : Claim7 := { stood := { row := wholeSaysRow, standIns := [], harness := (true, "867b45b46a9a8248b4f9204d84ab79df9d21fe2da90f1b7494ed8ca26ee569b7"), looks := false }, kinds := [], alts := [], laidByText := true, laidKinds := [.data], laidTests := true, laidLooks := .later }
def WholeSaysCardSaid : Prop := Claim7.holds Tryd.pinned (.plain (OpenSpec.ofChange wholeSaysSpec)) wholeSaysCard

/-- THE TIED CARD OF 'ulpkeep.WholeRounds'. -/
def wholeRoundsCard : Claim7 := { stood := { row := wholeRoundsRow, standIns := [], harness := (true, "867b45b46a9a8248b4f9204d84ab79df9d21fe2da90f1b7494ed8ca26ee569b7"), looks := false }, kinds := [], alts := [], laidByText := true, laidKinds := [.data], laidTests := true, laidLooks := .later }
def WholeRoundsCardSaid : Prop := Claim7.holds Tryd.pinned (.plain (OpenSpec.ofChange wholeRoundsSpec)) wholeRoundsCard

/-- THE TIED CARD OF 'ulpkeep.WholeOrder'. -/
def wholeOrderCard : Claim7 := { stood := { row := wholeOrderRow, standIns := [], harness := (true, "867b45b46a9a8248b4f9204d84ab79df9d21fe2da90f1b7494ed8ca26ee569b7"), looks := false }, kinds := [], alts := [], laidByText := true, laidKinds := [.data], laidTests := true, laidLooks := .later }
def WholeOrderCardSaid : Prop := Claim7.holds Tryd.pinned (.plain (OpenSpec.ofChange wholeOrderSpec)) wholeOrderCard

/-- THE TIED CARD OF 'ulpkeep.WholeInts'. -/
def wholeIntsCard : Claim7 := { stood := { row := wholeIntsRow, standIns := [], harness := (true, "867b45b46a9a8248b4f9204d84ab79df9d21fe2da90f1b7494ed8ca26ee569b7"), looks := false }, kinds := [], alts := [], laidByText := true, laidKinds := [.data], laidTests := true, laidLooks := .later }
def WholeIntsCardSaid : Prop := Claim7.holds Tryd.pinned (.plain (OpenSpec.ofChange wholeIntsSpec)) wholeIntsCard

/-- THE SECOND FORM's CARD OF 'ulplaw.WholeSays'. -/
def wholeSaysUptoCard : Claim7 := { stood := { row := wholeSaysUptoRow, standIns := [], harness := (true, "867b45b46a9a8248b4f9204d84ab79df9d21fe2da90f1b7494ed8ca26ee569b7"), looks := false }, kinds := [], alts := [], laidByText := true, laidKinds := [.data], laidTests := true, laidLooks := .later }
def WholeSaysUptoCardSaid : Prop := Claim7.holds Tryd.pinned (.plain (OpenSpec.upto wholeSaysSpec)) wholeSaysUptoCard

/-- THE SECOND FORM's CARD OF 'ulpkeep.WholeRounds'. -/
def wholeRoundsUptoCard : Claim7 := { stood := { row := wholeRoundsUptoRow, standIns := [], harness := (true, "867b45b46a9a8248b4f9204d84ab79df9d21fe2da90f1b7494ed8ca26ee569b7"), looks := false }, kinds := [], alts := [], laidByText := true, laidKinds := [.data], laidTests := true, laidLooks := .later }
def WholeRoundsUptoCardSaid : Prop := Claim7.holds Tryd.pinned (.plain (OpenSpec.upto wholeRoundsSpec)) wholeRoundsUptoCard

/-- THE SECOND FORM's CARD OF 'ulpkeep.WholeOrder'. -/
def wholeOrderUptoCard : Claim7 := { stood := { row := wholeOrderUptoRow, standIns := [], harness := (true, "867b45b46a9a8248b4f9204d84ab79df9d21fe2da90f1b7494ed8ca26ee569b7"), looks := false }, kinds := [], alts := [], laidByText := true, laidKinds := [.data], laidTests := true, laidLooks := .later }
def WholeOrderUptoCardSaid : Prop := Claim7.holds Tryd.pinned (.plain (OpenSpec.upto wholeOrderSpec)) wholeOrderUptoCard

/-- THE SECOND FORM's CARD OF 'ulpkeep.WholeInts'. -/
def wholeIntsUptoCard : Claim7 := { stood := { row := wholeIntsUptoRow, standIns := [], harness := (true, "867b45b46a9a8248b4f9204d84ab79df9d21fe2da90f1b7494ed8ca26ee569b7"), looks := false }, kinds := [], alts := [], laidByText := true, laidKinds := [.data], laidTests := true, laidLooks := .later }
def WholeIntsUptoCardSaid : Prop := Claim7.holds Tryd.pinned (.plain (OpenSpec.upto wholeIntsSpec)) wholeIntsUptoCard
end Rows
end Go.Proofs.YtpmpkllpaceloaaDoor
