/-
  DERIVED. GIVEN WITH THE SEED: THE CARDS: each row of YtnlgkhgighhfjaaDoorRows.lean that lists a variable, with what it lists TIED to the program's text (the seventh form; the later family's looks); each row that meets fmt, with fmt's text TOLD by the authors' own Lean function (tested against real Go, not proved from fmt's source: count such statements apart). THE CARD IS WHAT COUNTS. Prove the row's statement (the work); the ties are given (YtnlgkhgighhfjaaDoorTie.lean); close each card by the builder's one call (the guide's Derived/Test/ToyasCard.lean, 'card_holds'). Laid BY PROGRAM, IN A SANDBOX (cutbox-door.mjs). By AI agents, Wed Nov 11 2026. No macro, syntax, notation, axiom, sorry.
-/
import Derived.Test.YtnlgkhgighhfjaaDoorRows
import GoSem.ClaimSeven
namespace Go.Proofs.YtnlgkhgighhfjaaDoor
namespace Rows

/-- THE TIED CARD OF 'ulplaw.DyadMakes'. -/
def dyadMakesCard : Claim7 := { stood := { row := dyadMakesRow, standIns := [], harness := (true, "c95e2d67009702a5115de8e1e7e816048e98bdd2e3a9af8a5470631fef725da2"), looks := false }, kinds := [], alts := [], laidByText := true, laidKinds := [.data], laidTests := true, laidLooks := .later }
def DyadMakesCardSaid : Prop := Claim7.holds Tryd.pinned (.plain (OpenSpec.ofChange dyadMakesSpec)) dyadMakesCard

/-- THE TIED CARD OF 'ulplaw.DyadSums'. -/
def dyadSumsCard : Claim7 := { stood := { row := dyadSumsRow, standIns := [], harness := (true, "c95e2d67009702a5115de8e1e7e816048e98bdd2e3a9af8a5470631fef725da2"), looks := false }, kinds := [], alts := [], laidByText := true, laidKinds := [.data], laidTests := true, laidLooks := .later }
def DyadSumsCardSaid : Prop := Claim7.holds Tryd.pinned (.plain (OpenSpec.ofChange dyadSumsSpec)) dyadSumsCard

/-- THE TIED CARD OF 'ulplaw.RoundSays'. -/
def roundSaysCard : Claim7 := { stood := { row := roundSaysRow, standIns := [], harness := (true, "c95e2d67009702a5115de8e1e7e816048e98bdd2e3a9af8a5470631fef725da2"), looks := false }, kinds := [], alts := [], laidByText := true, laidKinds := [.data], laidTests := true, laidLooks := .later }
def RoundSaysCardSaid : Prop := Claim7.holds Tryd.pinned (.plain (OpenSpec.ofChange roundSaysSpec)) roundSaysCard

/-- THE TIED CARD OF 'ulplaw.RoundCuts'. -/
def roundCutsCard : Claim7 := { stood := { row := roundCutsRow, standIns := [], harness := (true, "c95e2d67009702a5115de8e1e7e816048e98bdd2e3a9af8a5470631fef725da2"), looks := false }, kinds := [], alts := [], laidByText := true, laidKinds := [.data], laidTests := true, laidLooks := .later }
def RoundCutsCardSaid : Prop := Claim7.holds Tryd.pinned (.plain (OpenSpec.ofChange roundCutsSpec)) roundCutsCard

/-- THE TIED CARD OF 'ulpkeep.RoundSame'. -/
def roundSameCard : Claim7 := { stood := { row := roundSameRow, standIns := [], harness := (true, "c95e2d67009702a5115de8e1e7e816048e98bdd2e3a9af8a5470631fef725da2"), looks := false }, kinds := [], alts := [], laidByText := true, laidKinds := [.data], laidTests := true, laidLooks := .later }
def RoundSameCardSaid : Prop := Claim7.holds Tryd.pinned (.plain (OpenSpec.ofChange roundSameSpec)) roundSameCard

/-- THE TIED CARD OF 'ulpkeep.RoundOrder'. -/
def roundOrderCard : Claim7 := { stood := { row := roundOrderRow, standIns := [], harness := (true, "c95e2d67009702a5115de8e1e7e816048e98bdd2e3a9af8a5470631fef725da2"), looks := false }, kinds := [], alts := [], laidByText := true, laidKinds := [.data], laidTests := true, laidLooks := .later }
def RoundOrderCardSaid : Prop := Claim7.holds Tryd.pinned (.plain (OpenSpec.ofChange roundOrderSpec)) roundOrderCard

/-- THE TIED CARD OF 'ulpkeep.RoundSides'. -/
def roundSidesCard : Claim7 := { stood := { row := roundSidesRow, standIns := [], harness := (true, "c95e2d67009702a5115de8e1e7e816048e98bdd2e3a9af8a5470631fef725da2"), looks := false }, kinds := [], alts := [], laidByText := true, laidKinds := [.data], laidTests := true, laidLooks := .later }
def RoundSidesCardSaid : Prop := Claim7.holds Tryd.pinned (.plain (OpenSpec.ofChange roundSidesSpec)) roundSidesCard

/-- THE TIED CARD OF 'ulpkeep.RoundNear'. -/
def roundNearCard : Claim7 := { stood := { row := roundNearRow, standIns := [], harness := (true, "c95e2d67009702a5115de8e1e7e816048e98bdd2e3a9af8a5470631fef725da2"), looks := false }, kinds := [], alts := [], laidByText := true, laidKinds := [.data], laidTests := true, laidLooks := .later }
def RoundNearCardSaid : Prop := Claim7.holds Tryd.pinned (.plain (OpenSpec.ofChange roundNearSpec)) roundNearCard

/-- THE TIED CARD OF 'ulpkeep.RoundTurned'. -/
def roundTurnedCard : Claim7 := { stood := { row := roundTurnedRow, standIns := [], harness := (true, "c95e2d67009702a5115de8e1e7e816048e98bdd2e3a9af8a5470631fef725da2"), looks := false }, kinds := [], alts := [], laidByText := true, laidKinds := [.data], laidTests := true, laidLooks := .later }
def RoundTurnedCardSaid : Prop := Claim7.holds Tryd.pinned (.plain (OpenSpec.ofChange roundTurnedSpec)) roundTurnedCard

/-- THE TIED CARD OF 'ulpkeep.RoundParts'. -/
def roundPartsCard : Claim7 := { stood := { row := roundPartsRow, standIns := [], harness := (true, "c95e2d67009702a5115de8e1e7e816048e98bdd2e3a9af8a5470631fef725da2"), looks := false }, kinds := [], alts := [], laidByText := true, laidKinds := [.data], laidTests := true, laidLooks := .later }
def RoundPartsCardSaid : Prop := Claim7.holds Tryd.pinned (.plain (OpenSpec.ofChange roundPartsSpec)) roundPartsCard

/-- THE TIED CARD OF 'ulpkeep.RoundCutTwice'. -/
def roundCutTwiceCard : Claim7 := { stood := { row := roundCutTwiceRow, standIns := [], harness := (true, "c95e2d67009702a5115de8e1e7e816048e98bdd2e3a9af8a5470631fef725da2"), looks := false }, kinds := [], alts := [], laidByText := true, laidKinds := [.data], laidTests := true, laidLooks := .later }
def RoundCutTwiceCardSaid : Prop := Claim7.holds Tryd.pinned (.plain (OpenSpec.ofChange roundCutTwiceSpec)) roundCutTwiceCard

/-- THE SECOND FORM's CARD OF 'ulplaw.DyadMakes'. -/
def dyadMakesUptoCard : Claim7 := { stood := { row := dyadMakesUptoRow, standIns := [], harness := (true, "c95e2d67009702a5115de8e1e7e816048e98bdd2e3a9af8a5470631fef725da2"), looks := false }, kinds := [], alts := [], laidByText := true, laidKinds := [.data], laidTests := true, laidLooks := .later }
def DyadMakesUptoCardSaid : Prop := Claim7.holds Tryd.pinned (.plain (OpenSpec.upto dyadMakesSpec)) dyadMakesUptoCard

/-- THE SECOND FORM's CARD OF 'ulplaw.DyadSums'. -/
def dyadSumsUptoCard : Claim7 := { stood := { row := dyadSumsUptoRow, standIns := [], harness := (true, "c95e2d67009702a5115de8e1e7e816048e98bdd2e3a9af8a5470631fef725da2"), looks := false }, kinds := [], alts := [], laidByText := true, laidKinds := [.data], laidTests := true, laidLooks := .later }
def DyadSumsUptoCardSaid : Prop := Claim7.holds Tryd.pinned (.plain (OpenSpec.upto dyadSumsSpec)) dyadSumsUptoCard

/-- THE SECOND FORM's CARD OF 'ulplaw.RoundSays'. -/
def roundSaysUptoCard : Claim7 := { stood := { row := roundSaysUptoRow, standIns := [], harness := (true, "c95e2d67009702a5115de8e1e7e816048e98bdd2e3a9af8a5470631fef725da2"), looks := false }, kinds := [], alts := [], laidByText := true, laidKinds := [.data], laidTests := true, laidLooks := .later }
def RoundSaysUptoCardSaid : Prop := Claim7.holds Tryd.pinned (.plain (OpenSpec.upto roundSaysSpec)) roundSaysUptoCard

/-- THE SECOND FORM's CARD OF 'ulplaw.RoundCuts'. -/
def roundCutsUptoCard : Claim7 := { stood := { row := roundCutsUptoRow, standIns := [], harness := (true, "c95e2d67009702a5115de8e1e7e816048e98bdd2e3a9af8a5470631fef725da2"), looks := false }, kinds := [], alts := [], laidByText := true, laidKinds := [.data], laidTests := true, laidLooks := .later }
def RoundCutsUptoCardSaid : Prop := Claim7.holds Tryd.pinned (.plain (OpenSpec.upto roundCutsSpec)) roundCutsUptoCard

/-- THE SECOND FORM's CARD OF 'ulpkeep.RoundSame'. -/
def roundSameUptoCard : Claim7 := { stood := { row := roundSameUptoRow, standIns := [], harness := (true, "c95e2d67009702a5115de8e1e7e816048e98bdd2e3a9af8a5470631fef725da2"), looks := false }, kinds := [], alts := [], laidByText := true, laidKinds := [.data], laidTests := true, laidLooks := .later }
def RoundSameUptoCardSaid : Prop := Claim7.holds Tryd.pinned (.plain (OpenSpec.upto roundSameSpec)) roundSameUptoCard

/-- THE SECOND FORM's CARD OF 'ulpkeep.RoundOrder'. -/
def roundOrderUptoCard : Claim7 := { stood := { row := roundOrderUptoRow, standIns := [], harness := (true, "c95e2d67009702a5115de8e1e7e816048e98bdd2e3a9af8a5470631fef725da2"), looks := false }, kinds := [], alts := [], laidByText := true, laidKinds := [.data], laidTests := true, laidLooks := .later }
def RoundOrderUptoCardSaid : Prop := Claim7.holds Tryd.pinned (.plain (OpenSpec.upto roundOrderSpec)) roundOrderUptoCard

/-- THE SECOND FORM's CARD OF 'ulpkeep.RoundSides'. -/
def roundSidesUptoCard : Claim7 := { stood := { row := roundSidesUptoRow, standIns := [], harness := (true, "c95e2d67009702a5115de8e1e7e816048e98bdd2e3a9af8a5470631fef725da2"), looks := false }, kinds := [], alts := [], laidByText := true, laidKinds := [.data], laidTests := true, laidLooks := .later }
def RoundSidesUptoCardSaid : Prop := Claim7.holds Tryd.pinned (.plain (OpenSpec.upto roundSidesSpec)) roundSidesUptoCard

/-- THE SECOND FORM's CARD OF 'ulpkeep.RoundNear'. -/
def roundNearUptoCard : Claim7 := { stood := { row := roundNearUptoRow, standIns := [], harness := (true, "c95e2d67009702a5115de8e1e7e816048e98bdd2e3a9af8a5470631fef725da2"), looks := false }, kinds := [], alts := [], laidByText := true, laidKinds := [.data], laidTests := true, laidLooks := .later }
def RoundNearUptoCardSaid : Prop := Claim7.holds Tryd.pinned (.plain (OpenSpec.upto roundNearSpec)) roundNearUptoCard

/-- THE SECOND FORM's CARD OF 'ulpkeep.RoundTurned'. -/
def roundTurnedUptoCard : Claim7 := { stood := { row := roundTurnedUptoRow, standIns := [], harness := (true, "c95e2d67009702a5115de8e1e7e816048e98bdd2e3a9af8a5470631fef725da2"), looks := false }, kinds := [], alts := [], laidByText := true, laidKinds := [.data], laidTests := true, laidLooks := .later }
def RoundTurnedUptoCardSaid : Prop := Claim7.holds Tryd.pinned (.plain (OpenSpec.upto roundTurnedSpec)) roundTurnedUptoCard

/-- THE SECOND FORM's CARD OF 'ulpkeep.RoundParts'. -/
def roundPartsUptoCard : Claim7 := { stood := { row := roundPartsUptoRow, standIns := [], harness := (true, "c95e2d67009702a5115de8e1e7e816048e98bdd2e3a9af8a5470631fef725da2"), looks := false }, kinds := [], alts := [], laidByText := true, laidKinds := [.data], laidTests := true, laidLooks := .later }
def RoundPartsUptoCardSaid : Prop := Claim7.holds Tryd.pinned (.plain (OpenSpec.upto roundPartsSpec)) roundPartsUptoCard

/-- THE SECOND FORM's CARD OF 'ulpkeep.RoundCutTwice'. -/
def roundCutTwiceUptoCard : Claim7 := { stood := { row := roundCutTwiceUptoRow, standIns := [], harness := (true, "c95e2d67009702a5115de8e1e7e816048e98bdd2e3a9af8a5470631fef725da2"), looks := false }, kinds := [], alts := [], laidByText := true, laidKinds := [.data], laidTests := true, laidLooks := .later }
def RoundCutTwiceUptoCardSaid : Prop := Claim7.holds Tryd.pinned (.plain (OpenSpec.upto roundCutTwiceSpec)) roundCutTwiceUptoCard
end Rows
end Go.Proofs.YtnlgkhgighhfjaaDoor
