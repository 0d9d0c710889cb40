/-
  DERIVED. GIVEN WITH THE SEED: THE CARDS: each row of YtcendlgbcnpfcaaDoorRows.lean that lists a variable, with what it lists TIED to the program's text (the seventh form; the later family's looks); each row that meets fmt, with fmt's text TOLD by the authors' own Lean function (tested against real Go, not proved from fmt's source: count such statements apart). THE CARD IS WHAT COUNTS. Prove the row's statement (the work); the ties are given (YtcendlgbcnpfcaaDoorTie.lean); close each card by the builder's one call (the guide's Derived/Test/ToyasCard.lean, 'card_holds'). Laid BY PROGRAM, IN A SANDBOX (cutbox-door.mjs). By AI agents, Wed Nov 11 2026. No macro, syntax, notation, axiom, sorry.
-/
import Derived.Test.YtcendlgbcnpfcaaDoorRows
import GoSem.ClaimSeven
namespace Go.Proofs.YtcendlgbcnpfcaaDoor
namespace Rows

/-- THE TIED CARD OF 'ulplaw.DyadMakes'. -/
def dyadMakesCard : Claim7 := { stood := { row := dyadMakesRow, standIns := [], harness := (true, "32a0c0d422a3419f3d90115d1ef5ee1401281e257dff4824606989f1e39e14c0"), looks := false }, kinds := [], alts := [], laidByText := true, laidKinds := [.data], laidTests := true, laidLooks := .later }
def DyadMakesCardSaid : Prop := Claim7.holds Tryd.pinned (.plain (OpenSpec.ofChange dyadMakesSpec)) dyadMakesCard

/-- THE TIED CARD OF 'ulplaw.DyadSums'. -/
def dyadSumsCard : Claim7 := { stood := { row := dyadSumsRow, standIns := [], harness := (true, "32a0c0d422a3419f3d90115d1ef5ee1401281e257dff4824606989f1e39e14c0"), looks := false }, kinds := [], alts := [], laidByText := true, laidKinds := [.data], laidTests := true, laidLooks := .later }
def DyadSumsCardSaid : Prop := Claim7.holds Tryd.pinned (.plain (OpenSpec.ofChange dyadSumsSpec)) dyadSumsCard

/-- THE TIED CARD OF 'ulplaw.RoundSays'. -/
def roundSaysCard : Claim7 := { stood := { row := roundSaysRow, standIns := [], harness := (true, "32a0c0d422a3419f3d90115d1ef5ee1401281e257dff4824606989f1e39e14c0"), looks := false }, kinds := [], alts := [], laidByText := true, laidKinds := [.data], laidTests := true, laidLooks := .later }
def RoundSaysCardSaid : Prop := Claim7.holds Tryd.pinned (.plain (OpenSpec.ofChange roundSaysSpec)) roundSaysCard

/-- THE TIED CARD OF 'ulplaw.RoundCuts'. -/
def roundCutsCard : Claim7 := { stood := { row := roundCutsRow, standIns := [], harness := (true, "32a0c0d422a3419f3d90115d1ef5ee1401281e257dff4824606989f1e39e14c0"), looks := false }, kinds := [], alts := [], laidByText := true, laidKinds := [.data], laidTests := true, laidLooks := .later }
def RoundCutsCardSaid : Prop := Claim7.holds Tryd.pinned (.plain (OpenSpec.ofChange roundCutsSpec)) roundCutsCard

/-- THE TIED CARD OF 'ulplaw.SumSays'. -/
def sumSaysCard : Claim7 := { stood := { row := sumSaysRow, standIns := [], harness := (true, "32a0c0d422a3419f3d90115d1ef5ee1401281e257dff4824606989f1e39e14c0"), looks := false }, kinds := [], alts := [], laidByText := true, laidKinds := [.data], laidTests := true, laidLooks := .later }
def SumSaysCardSaid : Prop := Claim7.holds Tryd.pinned (.plain (OpenSpec.ofChange sumSaysSpec)) sumSaysCard

/-- THE TIED CARD OF 'ulplaw.SumAll'. -/
def sumAllCard : Claim7 := { stood := { row := sumAllRow, standIns := [], harness := (true, "32a0c0d422a3419f3d90115d1ef5ee1401281e257dff4824606989f1e39e14c0"), looks := false }, kinds := [], alts := [], laidByText := true, laidKinds := [.data], laidTests := true, laidLooks := .later }
def SumAllCardSaid : Prop := Claim7.holds Tryd.pinned (.plain (OpenSpec.ofChange sumAllSpec)) sumAllCard

/-- THE TIED CARD OF 'ulpkeep.SumCommutes'. -/
def sumCommutesCard : Claim7 := { stood := { row := sumCommutesRow, standIns := [], harness := (true, "32a0c0d422a3419f3d90115d1ef5ee1401281e257dff4824606989f1e39e14c0"), looks := false }, kinds := [], alts := [], laidByText := true, laidKinds := [.data], laidTests := true, laidLooks := .later }
def SumCommutesCardSaid : Prop := Claim7.holds Tryd.pinned (.plain (OpenSpec.ofChange sumCommutesSpec)) sumCommutesCard

/-- THE TIED CARD OF 'ulpkeep.SumSterbenz'. -/
def sumSterbenzCard : Claim7 := { stood := { row := sumSterbenzRow, standIns := [], harness := (true, "32a0c0d422a3419f3d90115d1ef5ee1401281e257dff4824606989f1e39e14c0"), looks := false }, kinds := [], alts := [], laidByText := true, laidKinds := [.data], laidTests := true, laidLooks := .later }
def SumSterbenzCardSaid : Prop := Claim7.holds Tryd.pinned (.plain (OpenSpec.ofChange sumSterbenzSpec)) sumSterbenzCard

/-- THE TIED CARD OF 'ulpkeep.SumOrder'. -/
def sumOrderCard : Claim7 := { stood := { row := sumOrderRow, standIns := [], harness := (true, "32a0c0d422a3419f3d90115d1ef5ee1401281e257dff4824606989f1e39e14c0"), looks := false }, kinds := [], alts := [], laidByText := true, laidKinds := [.data], laidTests := true, laidLooks := .later }
def SumOrderCardSaid : Prop := Claim7.holds Tryd.pinned (.plain (OpenSpec.ofChange sumOrderSpec)) sumOrderCard

/-- THE TIED CARD OF 'ulpkeep.SumSmall'. -/
def sumSmallCard : Claim7 := { stood := { row := sumSmallRow, standIns := [], harness := (true, "32a0c0d422a3419f3d90115d1ef5ee1401281e257dff4824606989f1e39e14c0"), looks := false }, kinds := [], alts := [], laidByText := true, laidKinds := [.data], laidTests := true, laidLooks := .later }
def SumSmallCardSaid : Prop := Claim7.holds Tryd.pinned (.plain (OpenSpec.ofChange sumSmallSpec)) sumSmallCard

/-- THE TIED CARD OF 'ulpkeep.SumOnce'. -/
def sumOnceCard : Claim7 := { stood := { row := sumOnceRow, standIns := [], harness := (true, "32a0c0d422a3419f3d90115d1ef5ee1401281e257dff4824606989f1e39e14c0"), looks := false }, kinds := [], alts := [], laidByText := true, laidKinds := [.data], laidTests := true, laidLooks := .later }
def SumOnceCardSaid : Prop := Claim7.holds Tryd.pinned (.plain (OpenSpec.ofChange sumOnceSpec)) sumOnceCard

/-- THE SECOND FORM's CARD OF 'ulplaw.DyadMakes'. -/
def dyadMakesUptoCard : Claim7 := { stood := { row := dyadMakesUptoRow, standIns := [], harness := (true, "32a0c0d422a3419f3d90115d1ef5ee1401281e257dff4824606989f1e39e14c0"), looks := false }, kinds := [], alts := [], laidByText := true, laidKinds := [.data], laidTests := true, laidLooks := .later }
def DyadMakesUptoCardSaid : Prop := Claim7.holds Tryd.pinned (.plain (OpenSpec.upto dyadMakesSpec)) dyadMakesUptoCard

/-- THE SECOND FORM's CARD OF 'ulplaw.DyadSums'. -/
def dyadSumsUptoCard : Claim7 := { stood := { row := dyadSumsUptoRow, standIns := [], harness := (true, "32a0c0d422a3419f3d90115d1ef5ee1401281e257dff4824606989f1e39e14c0"), looks := false }, kinds := [], alts := [], laidByText := true, laidKinds := [.data], laidTests := true, laidLooks := .later }
def DyadSumsUptoCardSaid : Prop := Claim7.holds Tryd.pinned (.plain (OpenSpec.upto dyadSumsSpec)) dyadSumsUptoCard

/-- THE SECOND FORM's CARD OF 'ulplaw.RoundSays'. -/
def roundSaysUptoCard : Claim7 := { stood := { row := roundSaysUptoRow, standIns := [], harness := (true, "32a0c0d422a3419f3d90115d1ef5ee1401281e257dff4824606989f1e39e14c0"), looks := false }, kinds := [], alts := [], laidByText := true, laidKinds := [.data], laidTests := true, laidLooks := .later }
def RoundSaysUptoCardSaid : Prop := Claim7.holds Tryd.pinned (.plain (OpenSpec.upto roundSaysSpec)) roundSaysUptoCard

/-- THE SECOND FORM's CARD OF 'ulplaw.RoundCuts'. -/
def roundCutsUptoCard : Claim7 := { stood := { row := roundCutsUptoRow, standIns := [], harness := (true, "32a0c0d422a3419f3d90115d1ef5ee1401281e257dff4824606989f1e39e14c0"), looks := false }, kinds := [], alts := [], laidByText := true, laidKinds := [.data], laidTests := true, laidLooks := .later }
def RoundCutsUptoCardSaid : Prop := Claim7.holds Tryd.pinned (.plain (OpenSpec.upto roundCutsSpec)) roundCutsUptoCard

/-- THE SECOND FORM's CARD OF 'ulplaw.SumSays'. -/
def sumSaysUptoCard : Claim7 := { stood := { row := sumSaysUptoRow, standIns := [], harness := (true, "32a0c0d422a3419f3d90115d1ef5ee1401281e257dff4824606989f1e39e14c0"), looks := false }, kinds := [], alts := [], laidByText := true, laidKinds := [.data], laidTests := true, laidLooks := .later }
def SumSaysUptoCardSaid : Prop := Claim7.holds Tryd.pinned (.plain (OpenSpec.upto sumSaysSpec)) sumSaysUptoCard

/-- THE SECOND FORM's CARD OF 'ulplaw.SumAll'. -/
def sumAllUptoCard : Claim7 := { stood := { row := sumAllUptoRow, standIns := [], harness := (true, "32a0c0d422a3419f3d90115d1ef5ee1401281e257dff4824606989f1e39e14c0"), looks := false }, kinds := [], alts := [], laidByText := true, laidKinds := [.data], laidTests := true, laidLooks := .later }
def SumAllUptoCardSaid : Prop := Claim7.holds Tryd.pinned (.plain (OpenSpec.upto sumAllSpec)) sumAllUptoCard

/-- THE SECOND FORM's CARD OF 'ulpkeep.SumCommutes'. -/
def sumCommutesUptoCard : Claim7 := { stood := { row := sumCommutesUptoRow, standIns := [], harness := (true, "32a0c0d422a3419f3d90115d1ef5ee1401281e257dff4824606989f1e39e14c0"), looks := false }, kinds := [], alts := [], laidByText := true, laidKinds := [.data], laidTests := true, laidLooks := .later }
def SumCommutesUptoCardSaid : Prop := Claim7.holds Tryd.pinned (.plain (OpenSpec.upto sumCommutesSpec)) sumCommutesUptoCard

/-- THE SECOND FORM's CARD OF 'ulpkeep.SumSterbenz'. -/
def sumSterbenzUptoCard : Claim7 := { stood := { row := sumSterbenzUptoRow, standIns := [], harness := (true, "32a0c0d422a3419f3d90115d1ef5ee1401281e257dff4824606989f1e39e14c0"), looks := false }, kinds := [], alts := [], laidByText := true, laidKinds := [.data], laidTests := true, laidLooks := .later }
def SumSterbenzUptoCardSaid : Prop := Claim7.holds Tryd.pinned (.plain (OpenSpec.upto sumSterbenzSpec)) sumSterbenzUptoCard

/-- THE SECOND FORM's CARD OF 'ulpkeep.SumOrder'. -/
def sumOrderUptoCard : Claim7 := { stood := { row := sumOrderUptoRow, standIns := [], harness := (true, "32a0c0d422a3419f3d90115d1ef5ee1401281e257dff4824606989f1e39e14c0"), looks := false }, kinds := [], alts := [], laidByText := true, laidKinds := [.data], laidTests := true, laidLooks := .later }
def SumOrderUptoCardSaid : Prop := Claim7.holds Tryd.pinned (.plain (OpenSpec.upto sumOrderSpec)) sumOrderUptoCard

/-- THE SECOND FORM's CARD OF 'ulpkeep.SumSmall'. -/
def sumSmallUptoCard : Claim7 := { stood := { row := sumSmallUptoRow, standIns := [], harness := (true, "32a0c0d422a3419f3d90115d1ef5ee1401281e257dff4824606989f1e39e14c0"), looks := false }, kinds := [], alts := [], laidByText := true, laidKinds := [.data], laidTests := true, laidLooks := .later }
def SumSmallUptoCardSaid : Prop := Claim7.holds Tryd.pinned (.plain (OpenSpec.upto sumSmallSpec)) sumSmallUptoCard

/-- THE SECOND FORM's CARD OF 'ulpkeep.SumOnce'. -/
def sumOnceUptoCard : Claim7 := { stood := { row := sumOnceUptoRow, standIns := [], harness := (true, "32a0c0d422a3419f3d90115d1ef5ee1401281e257dff4824606989f1e39e14c0"), looks := false }, kinds := [], alts := [], laidByText := true, laidKinds := [.data], laidTests := true, laidLooks := .later }
def SumOnceUptoCardSaid : Prop := Claim7.holds Tryd.pinned (.plain (OpenSpec.upto sumOnceSpec)) sumOnceUptoCard
end Rows
end Go.Proofs.YtcendlgbcnpfcaaDoor
