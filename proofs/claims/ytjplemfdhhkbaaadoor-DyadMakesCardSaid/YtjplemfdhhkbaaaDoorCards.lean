/-
  DERIVED. GIVEN WITH THE SEED: THE CARDS: each row of YtjplemfdhhkbaaaDoorRows.lean that lists a variable, with what it lists TIED to the program's text (the seventh form; the later family's looks); each row that meets fmt, with fmt's text TOLD by the authors' own Lean function (tested against real Go, not proved from fmt's source: count such statements apart). THE CARD IS WHAT COUNTS. Prove the row's statement (the work); the ties are given (YtjplemfdhhkbaaaDoorTie.lean); close each card by the builder's one call (the guide's Derived/Test/ToyasCard.lean, 'card_holds'). Laid BY PROGRAM, IN A SANDBOX (cutbox-door.mjs). By AI agents, Wed Nov 11 2026. No macro, syntax, notation, axiom, sorry.
-/
import Derived.Test.YtjplemfdhhkbaaaDoorRows
import GoSem.ClaimSeven
namespace Go.Proofs.YtjplemfdhhkbaaaDoor
namespace Rows

/-- THE TIED CARD OF 'ulplaw.DyadMakes'. -/
def dyadMakesCard : Claim7 := { stood := { row := dyadMakesRow, standIns := [], harness := (true, "4b6f629c0322833493ce510e2a25bf7a364da49a8f4c91285cf536cdde29b810"), looks := false }, kinds := [], alts := [], laidByText := true, laidKinds := [.data], laidTests := true, laidLooks := .later }
def DyadMakesCardSaid : Prop := Claim7.holds Tryd.pinned (.plain (OpenSpec.ofChange dyadMakesSpec)) dyadMakesCard

/-- THE TIED CARD OF 'ulplaw.DyadSums'. -/
def dyadSumsCard : Claim7 := { stood := { row := dyadSumsRow, standIns := [], harness := (true, "4b6f629c0322833493ce510e2a25bf7a364da49a8f4c91285cf536cdde29b810"), looks := false }, kinds := [], alts := [], laidByText := true, laidKinds := [.data], laidTests := true, laidLooks := .later }
def DyadSumsCardSaid : Prop := Claim7.holds Tryd.pinned (.plain (OpenSpec.ofChange dyadSumsSpec)) dyadSumsCard

/-- THE TIED CARD OF 'ulplaw.RoundCuts'. -/
def roundCutsCard : Claim7 := { stood := { row := roundCutsRow, standIns := [], harness := (true, "4b6f629c0322833493ce510e2a25bf7a364da49a8f4c91285cf536cdde29b810"), looks := false }, kinds := [], alts := [], laidByText := true, laidKinds := [.data], laidTests := true, laidLooks := .later }
def RoundCutsCardSaid : Prop := Claim7.holds Tryd.pinned (.plain (OpenSpec.ofChange roundCutsSpec)) roundCutsCard

/-- THE TIED CARD OF 'ulplaw.ProdDot'. -/
def prodDotCard : Claim7 := { stood := { row := prodDotRow, standIns := [], harness := (true, "4b6f629c0322833493ce510e2a25bf7a364da49a8f4c91285cf536cdde29b810"), looks := false }, kinds := [], alts := [], laidByText := true, laidKinds := [.data], laidTests := true, laidLooks := .later }
def ProdDotCardSaid : Prop := Claim7.holds Tryd.pinned (.plain (OpenSpec.ofChange prodDotSpec)) prodDotCard

/-- THE TIED CARD OF 'ulpkeep.ProdCommutes'. -/
def prodCommutesCard : Claim7 := { stood := { row := prodCommutesRow, standIns := [], harness := (true, "4b6f629c0322833493ce510e2a25bf7a364da49a8f4c91285cf536cdde29b810"), looks := false }, kinds := [], alts := [], laidByText := true, laidKinds := [.data], laidTests := true, laidLooks := .later }
def ProdCommutesCardSaid : Prop := Claim7.holds Tryd.pinned (.plain (OpenSpec.ofChange prodCommutesSpec)) prodCommutesCard

/-- THE TIED CARD OF 'ulpkeep.ProdFused'. -/
def prodFusedCard : Claim7 := { stood := { row := prodFusedRow, standIns := [], harness := (true, "4b6f629c0322833493ce510e2a25bf7a364da49a8f4c91285cf536cdde29b810"), looks := false }, kinds := [], alts := [], laidByText := true, laidKinds := [.data], laidTests := true, laidLooks := .later }
def ProdFusedCardSaid : Prop := Claim7.holds Tryd.pinned (.plain (OpenSpec.ofChange prodFusedSpec)) prodFusedCard

/-- THE TIED CARD OF 'ulpkeep.ProdOrder'. -/
def prodOrderCard : Claim7 := { stood := { row := prodOrderRow, standIns := [], harness := (true, "4b6f629c0322833493ce510e2a25bf7a364da49a8f4c91285cf536cdde29b810"), looks := false }, kinds := [], alts := [], laidByText := true, laidKinds := [.data], laidTests := true, laidLooks := .later }
def ProdOrderCardSaid : Prop := Claim7.holds Tryd.pinned (.plain (OpenSpec.ofChange prodOrderSpec)) prodOrderCard

/-- THE TIED CARD OF 'ulpkeep.ProdPowers'. -/
def prodPowersCard : Claim7 := { stood := { row := prodPowersRow, standIns := [], harness := (true, "4b6f629c0322833493ce510e2a25bf7a364da49a8f4c91285cf536cdde29b810"), looks := false }, kinds := [], alts := [], laidByText := true, laidKinds := [.data], laidTests := true, laidLooks := .later }
def ProdPowersCardSaid : Prop := Claim7.holds Tryd.pinned (.plain (OpenSpec.ofChange prodPowersSpec)) prodPowersCard

/-- THE TIED CARD OF 'ulpkeep.ProdDots'. -/
def prodDotsCard : Claim7 := { stood := { row := prodDotsRow, standIns := [], harness := (true, "4b6f629c0322833493ce510e2a25bf7a364da49a8f4c91285cf536cdde29b810"), looks := false }, kinds := [], alts := [], laidByText := true, laidKinds := [.data], laidTests := true, laidLooks := .later }
def ProdDotsCardSaid : Prop := Claim7.holds Tryd.pinned (.plain (OpenSpec.ofChange prodDotsSpec)) prodDotsCard

/-- THE TIED CARD OF 'ulpkeep.ProdExact'. -/
def prodExactCard : Claim7 := { stood := { row := prodExactRow, standIns := [], harness := (true, "4b6f629c0322833493ce510e2a25bf7a364da49a8f4c91285cf536cdde29b810"), looks := false }, kinds := [], alts := [], laidByText := true, laidKinds := [.data], laidTests := true, laidLooks := .later }
def ProdExactCardSaid : Prop := Claim7.holds Tryd.pinned (.plain (OpenSpec.ofChange prodExactSpec)) prodExactCard

/-- THE SECOND FORM's CARD OF 'ulplaw.DyadMakes'. -/
def dyadMakesUptoCard : Claim7 := { stood := { row := dyadMakesUptoRow, standIns := [], harness := (true, "4b6f629c0322833493ce510e2a25bf7a364da49a8f4c91285cf536cdde29b810"), looks := false }, kinds := [], alts := [], laidByText := true, laidKinds := [.data], laidTests := true, laidLooks := .later }
def DyadMakesUptoCardSaid : Prop := Claim7.holds Tryd.pinned (.plain (OpenSpec.upto dyadMakesSpec)) dyadMakesUptoCard

/-- THE SECOND FORM's CARD OF 'ulplaw.DyadSums'. -/
def dyadSumsUptoCard : Claim7 := { stood := { row := dyadSumsUptoRow, standIns := [], harness := (true, "4b6f629c0322833493ce510e2a25bf7a364da49a8f4c91285cf536cdde29b810"), looks := false }, kinds := [], alts := [], laidByText := true, laidKinds := [.data], laidTests := true, laidLooks := .later }
def DyadSumsUptoCardSaid : Prop := Claim7.holds Tryd.pinned (.plain (OpenSpec.upto dyadSumsSpec)) dyadSumsUptoCard

/-- THE SECOND FORM's CARD OF 'ulplaw.RoundCuts'. -/
def roundCutsUptoCard : Claim7 := { stood := { row := roundCutsUptoRow, standIns := [], harness := (true, "4b6f629c0322833493ce510e2a25bf7a364da49a8f4c91285cf536cdde29b810"), looks := false }, kinds := [], alts := [], laidByText := true, laidKinds := [.data], laidTests := true, laidLooks := .later }
def RoundCutsUptoCardSaid : Prop := Claim7.holds Tryd.pinned (.plain (OpenSpec.upto roundCutsSpec)) roundCutsUptoCard

/-- THE SECOND FORM's CARD OF 'ulplaw.ProdDot'. -/
def prodDotUptoCard : Claim7 := { stood := { row := prodDotUptoRow, standIns := [], harness := (true, "4b6f629c0322833493ce510e2a25bf7a364da49a8f4c91285cf536cdde29b810"), looks := false }, kinds := [], alts := [], laidByText := true, laidKinds := [.data], laidTests := true, laidLooks := .later }
def ProdDotUptoCardSaid : Prop := Claim7.holds Tryd.pinned (.plain (OpenSpec.upto prodDotSpec)) prodDotUptoCard

/-- THE SECOND FORM's CARD OF 'ulpkeep.ProdCommutes'. -/
def prodCommutesUptoCard : Claim7 := { stood := { row := prodCommutesUptoRow, standIns := [], harness := (true, "4b6f629c0322833493ce510e2a25bf7a364da49a8f4c91285cf536cdde29b810"), looks := false }, kinds := [], alts := [], laidByText := true, laidKinds := [.data], laidTests := true, laidLooks := .later }
def ProdCommutesUptoCardSaid : Prop := Claim7.holds Tryd.pinned (.plain (OpenSpec.upto prodCommutesSpec)) prodCommutesUptoCard

/-- THE SECOND FORM's CARD OF 'ulpkeep.ProdFused'. -/
def prodFusedUptoCard : Claim7 := { stood := { row := prodFusedUptoRow, standIns := [], harness := (true, "4b6f629c0322833493ce510e2a25bf7a364da49a8f4c91285cf536cdde29b810"), looks := false }, kinds := [], alts := [], laidByText := true, laidKinds := [.data], laidTests := true, laidLooks := .later }
def ProdFusedUptoCardSaid : Prop := Claim7.holds Tryd.pinned (.plain (OpenSpec.upto prodFusedSpec)) prodFusedUptoCard

/-- THE SECOND FORM's CARD OF 'ulpkeep.ProdOrder'. -/
def prodOrderUptoCard : Claim7 := { stood := { row := prodOrderUptoRow, standIns := [], harness := (true, "4b6f629c0322833493ce510e2a25bf7a364da49a8f4c91285cf536cdde29b810"), looks := false }, kinds := [], alts := [], laidByText := true, laidKinds := [.data], laidTests := true, laidLooks := .later }
def ProdOrderUptoCardSaid : Prop := Claim7.holds Tryd.pinned (.plain (OpenSpec.upto prodOrderSpec)) prodOrderUptoCard

/-- THE SECOND FORM's CARD OF 'ulpkeep.ProdPowers'. -/
def prodPowersUptoCard : Claim7 := { stood := { row := prodPowersUptoRow, standIns := [], harness := (true, "4b6f629c0322833493ce510e2a25bf7a364da49a8f4c91285cf536cdde29b810"), looks := false }, kinds := [], alts := [], laidByText := true, laidKinds := [.data], laidTests := true, laidLooks := .later }
def ProdPowersUptoCardSaid : Prop := Claim7.holds Tryd.pinned (.plain (OpenSpec.upto prodPowersSpec)) prodPowersUptoCard

/-- THE SECOND FORM's CARD OF 'ulpkeep.ProdDots'. -/
def prodDotsUptoCard : Claim7 := { stood := { row := prodDotsUptoRow, standIns := [], harness := (true, "4b6f629c0322833493ce510e2a25bf7a364da49a8f4c91285cf536cdde29b810"), looks := false }, kinds := [], alts := [], laidByText := true, laidKinds := [.data], laidTests := true, laidLooks := .later }
def ProdDotsUptoCardSaid : Prop := Claim7.holds Tryd.pinned (.plain (OpenSpec.upto prodDotsSpec)) prodDotsUptoCard

/-- THE SECOND FORM's CARD OF 'ulpkeep.ProdExact'. -/
def prodExactUptoCard : Claim7 := { stood := { row := prodExactUptoRow, standIns := [], harness := (true, "4b6f629c0322833493ce510e2a25bf7a364da49a8f4c91285cf536cdde29b810"), looks := false }, kinds := [], alts := [], laidByText := true, laidKinds := [.data], laidTests := true, laidLooks := .later }
def ProdExactUptoCardSaid : Prop := Claim7.holds Tryd.pinned (.plain (OpenSpec.upto prodExactSpec)) prodExactUptoCard
end Rows
end Go.Proofs.YtjplemfdhhkbaaaDoor
