/-
  DERIVED. GIVEN WITH THE SEED: THE CARDS: each row of YtpmjeipdldnnbaaDoorRows.lean that lists a variable, with what it lists TIED to the program's text (the seventh form; the later family's looks); each row that meets fmt, with fmt's text TOLD by the authors' own Lean function (tested against real Go, not proved from fmt's source: count such statements apart). THE CARD IS WHAT COUNTS. Prove the row's statement (the work); the ties are given (YtpmjeipdldnnbaaDoorTie.lean); close each card by the builder's one call (the guide's Derived/Test/ToyasCard.lean, 'card_holds'). Laid BY PROGRAM, IN A SANDBOX (cutbox-door.mjs). By AI agents, Wed Nov 11 2026. No macro, syntax, notation, axiom, sorry.
-/
import Derived.Test.YtpmjeipdldnnbaaDoorRows
import GoSem.ClaimSeven
namespace Go.Proofs.YtpmjeipdldnnbaaDoor
namespace Rows

/-- THE TIED CARD OF 'ulplaw.QuotRem'. -/
def quotRemCard : Claim7 := { stood := { row := quotRemRow, standIns := [], harness := (true, "6ab14171e879074601e88def11400bc25d054243b7bb7edbc4fb413263390283"), looks := false }, kinds := [], alts := [], laidByText := true, laidKinds := [.data], laidTests := true, laidLooks := .later }
def QuotRemCardSaid : Prop := Claim7.holds Tryd.pinned (.plain (OpenSpec.ofChange quotRemSpec)) quotRemCard

/-- THE TIED CARD OF 'ulpkeep.QuotSelf'. -/
def quotSelfCard : Claim7 := { stood := { row := quotSelfRow, standIns := [], harness := (true, "6ab14171e879074601e88def11400bc25d054243b7bb7edbc4fb413263390283"), looks := false }, kinds := [], alts := [], laidByText := true, laidKinds := [.data], laidTests := true, laidLooks := .later }
def QuotSelfCardSaid : Prop := Claim7.holds Tryd.pinned (.plain (OpenSpec.ofChange quotSelfSpec)) quotSelfCard

/-- THE TIED CARD OF 'ulpkeep.QuotBack'. -/
def quotBackCard : Claim7 := { stood := { row := quotBackRow, standIns := [], harness := (true, "6ab14171e879074601e88def11400bc25d054243b7bb7edbc4fb413263390283"), looks := false }, kinds := [], alts := [], laidByText := true, laidKinds := [.data], laidTests := true, laidLooks := .later }
def QuotBackCardSaid : Prop := Claim7.holds Tryd.pinned (.plain (OpenSpec.ofChange quotBackSpec)) quotBackCard

/-- THE TIED CARD OF 'ulpkeep.QuotRoot'. -/
def quotRootCard : Claim7 := { stood := { row := quotRootRow, standIns := [], harness := (true, "6ab14171e879074601e88def11400bc25d054243b7bb7edbc4fb413263390283"), looks := false }, kinds := [], alts := [], laidByText := true, laidKinds := [.data], laidTests := true, laidLooks := .later }
def QuotRootCardSaid : Prop := Claim7.holds Tryd.pinned (.plain (OpenSpec.ofChange quotRootSpec)) quotRootCard

/-- THE TIED CARD OF 'ulpkeep.QuotNever'. -/
def quotNeverCard : Claim7 := { stood := { row := quotNeverRow, standIns := [], harness := (true, "6ab14171e879074601e88def11400bc25d054243b7bb7edbc4fb413263390283"), looks := false }, kinds := [], alts := [], laidByText := true, laidKinds := [.data], laidTests := true, laidLooks := .later }
def QuotNeverCardSaid : Prop := Claim7.holds Tryd.pinned (.plain (OpenSpec.ofChange quotNeverSpec)) quotNeverCard

/-- THE TIED CARD OF 'ulpkeep.QuotRest'. -/
def quotRestCard : Claim7 := { stood := { row := quotRestRow, standIns := [], harness := (true, "6ab14171e879074601e88def11400bc25d054243b7bb7edbc4fb413263390283"), looks := false }, kinds := [], alts := [], laidByText := true, laidKinds := [.data], laidTests := true, laidLooks := .later }
def QuotRestCardSaid : Prop := Claim7.holds Tryd.pinned (.plain (OpenSpec.ofChange quotRestSpec)) quotRestCard

/-- THE SECOND FORM's CARD OF 'ulplaw.QuotRem'. -/
def quotRemUptoCard : Claim7 := { stood := { row := quotRemUptoRow, standIns := [], harness := (true, "6ab14171e879074601e88def11400bc25d054243b7bb7edbc4fb413263390283"), looks := false }, kinds := [], alts := [], laidByText := true, laidKinds := [.data], laidTests := true, laidLooks := .later }
def QuotRemUptoCardSaid : Prop := Claim7.holds Tryd.pinned (.plain (OpenSpec.upto quotRemSpec)) quotRemUptoCard

/-- THE SECOND FORM's CARD OF 'ulpkeep.QuotSelf'. -/
def quotSelfUptoCard : Claim7 := { stood := { row := quotSelfUptoRow, standIns := [], harness := (true, "6ab14171e879074601e88def11400bc25d054243b7bb7edbc4fb413263390283"), looks := false }, kinds := [], alts := [], laidByText := true, laidKinds := [.data], laidTests := true, laidLooks := .later }
def QuotSelfUptoCardSaid : Prop := Claim7.holds Tryd.pinned (.plain (OpenSpec.upto quotSelfSpec)) quotSelfUptoCard

/-- THE SECOND FORM's CARD OF 'ulpkeep.QuotBack'. -/
def quotBackUptoCard : Claim7 := { stood := { row := quotBackUptoRow, standIns := [], harness := (true, "6ab14171e879074601e88def11400bc25d054243b7bb7edbc4fb413263390283"), looks := false }, kinds := [], alts := [], laidByText := true, laidKinds := [.data], laidTests := true, laidLooks := .later }
def QuotBackUptoCardSaid : Prop := Claim7.holds Tryd.pinned (.plain (OpenSpec.upto quotBackSpec)) quotBackUptoCard

/-- THE SECOND FORM's CARD OF 'ulpkeep.QuotRoot'. -/
def quotRootUptoCard : Claim7 := { stood := { row := quotRootUptoRow, standIns := [], harness := (true, "6ab14171e879074601e88def11400bc25d054243b7bb7edbc4fb413263390283"), looks := false }, kinds := [], alts := [], laidByText := true, laidKinds := [.data], laidTests := true, laidLooks := .later }
def QuotRootUptoCardSaid : Prop := Claim7.holds Tryd.pinned (.plain (OpenSpec.upto quotRootSpec)) quotRootUptoCard

/-- THE SECOND FORM's CARD OF 'ulpkeep.QuotNever'. -/
def quotNeverUptoCard : Claim7 := { stood := { row := quotNeverUptoRow, standIns := [], harness := (true, "6ab14171e879074601e88def11400bc25d054243b7bb7edbc4fb413263390283"), looks := false }, kinds := [], alts := [], laidByText := true, laidKinds := [.data], laidTests := true, laidLooks := .later }
def QuotNeverUptoCardSaid : Prop := Claim7.holds Tryd.pinned (.plain (OpenSpec.upto quotNeverSpec)) quotNeverUptoCard

/-- THE SECOND FORM's CARD OF 'ulpkeep.QuotRest'. -/
def quotRestUptoCard : Claim7 := { stood := { row := quotRestUptoRow, standIns := [], harness := (true, "6ab14171e879074601e88def11400bc25d054243b7bb7edbc4fb413263390283"), looks := false }, kinds := [], alts := [], laidByText := true, laidKinds := [.data], laidTests := true, laidLooks := .later }
def QuotRestUptoCardSaid : Prop := Claim7.holds Tryd.pinned (.plain (OpenSpec.upto quotRestSpec)) quotRestUptoCard
end Rows
end Go.Proofs.YtpmjeipdldnnbaaDoor
