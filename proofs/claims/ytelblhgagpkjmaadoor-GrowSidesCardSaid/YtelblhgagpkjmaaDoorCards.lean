/-
  DERIVED. GIVEN WITH THE SEED: THE CARDS: each row of YtelblhgagpkjmaaDoorRows.lean that lists a variable, with what it lists TIED to the program's text (the seventh form; the later family's looks); each row that meets fmt, with fmt's text TOLD by the authors' own Lean function (tested against real Go, not proved from fmt's source: count such statements apart). THE CARD IS WHAT COUNTS. Prove the row's statement (the work); the ties are given (YtelblhgagpkjmaaDoorTie.lean); close each card by the builder's one call (the guide's Derived/Test/ToyasCard.lean, 'card_holds'). Laid BY PROGRAM, IN A SANDBOX (cutbox-door.mjs). By AI agents, Wed Nov 11 2026. No macro, syntax, notation, axiom, sorry.
-/
import Derived.Test.YtelblhgagpkjmaaDoorRows
import GoSem.ClaimSeven
namespace Go.Proofs.YtelblhgagpkjmaaDoor
namespace Rows

/-- THE TIED CARD OF 'ulplaw.GrowTurns'. -/
def growTurnsCard : Claim7 := { stood := { row := growTurnsRow, standIns := [], harness := (true, "5b521380ed3ceb62f816f5cd32c9513877040ccd3a1f7a6d773aca026192fcde"), looks := false }, kinds := [], alts := [], laidByText := true, laidKinds := [.data], laidTests := true, laidLooks := .later }
def GrowTurnsCardSaid : Prop := Claim7.holds Tryd.pinned (.plain (OpenSpec.ofChange growTurnsSpec)) growTurnsCard

/-- THE TIED CARD OF 'ulpkeep.GrowExact'. -/
def growExactCard : Claim7 := { stood := { row := growExactRow, standIns := [], harness := (true, "5b521380ed3ceb62f816f5cd32c9513877040ccd3a1f7a6d773aca026192fcde"), looks := false }, kinds := [], alts := [], laidByText := true, laidKinds := [.data], laidTests := true, laidLooks := .later }
def GrowExactCardSaid : Prop := Claim7.holds Tryd.pinned (.plain (OpenSpec.ofChange growExactSpec)) growExactCard

/-- THE TIED CARD OF 'ulpkeep.GrowJoins'. -/
def growJoinsCard : Claim7 := { stood := { row := growJoinsRow, standIns := [], harness := (true, "5b521380ed3ceb62f816f5cd32c9513877040ccd3a1f7a6d773aca026192fcde"), looks := false }, kinds := [], alts := [], laidByText := true, laidKinds := [.data], laidTests := true, laidLooks := .later }
def GrowJoinsCardSaid : Prop := Claim7.holds Tryd.pinned (.plain (OpenSpec.ofChange growJoinsSpec)) growJoinsCard

/-- THE TIED CARD OF 'ulpkeep.GrowSign'. -/
def growSignCard : Claim7 := { stood := { row := growSignRow, standIns := [], harness := (true, "5b521380ed3ceb62f816f5cd32c9513877040ccd3a1f7a6d773aca026192fcde"), looks := false }, kinds := [], alts := [], laidByText := true, laidKinds := [.data], laidTests := true, laidLooks := .later }
def GrowSignCardSaid : Prop := Claim7.holds Tryd.pinned (.plain (OpenSpec.ofChange growSignSpec)) growSignCard

/-- THE TIED CARD OF 'ulpkeep.GrowSides'. -/
def growSidesCard : Claim7 := { stood := { row := growSidesRow, standIns := [], harness := (true, "5b521380ed3ceb62f816f5cd32c9513877040ccd3a1f7a6d773aca026192fcde"), looks := false }, kinds := [], alts := [], laidByText := true, laidKinds := [.data], laidTests := true, laidLooks := .later }
def GrowSidesCardSaid : Prop := Claim7.holds Tryd.pinned (.plain (OpenSpec.ofChange growSidesSpec)) growSidesCard

/-- THE SECOND FORM's CARD OF 'ulplaw.GrowTurns'. -/
def growTurnsUptoCard : Claim7 := { stood := { row := growTurnsUptoRow, standIns := [], harness := (true, "5b521380ed3ceb62f816f5cd32c9513877040ccd3a1f7a6d773aca026192fcde"), looks := false }, kinds := [], alts := [], laidByText := true, laidKinds := [.data], laidTests := true, laidLooks := .later }
def GrowTurnsUptoCardSaid : Prop := Claim7.holds Tryd.pinned (.plain (OpenSpec.upto growTurnsSpec)) growTurnsUptoCard

/-- THE SECOND FORM's CARD OF 'ulpkeep.GrowExact'. -/
def growExactUptoCard : Claim7 := { stood := { row := growExactUptoRow, standIns := [], harness := (true, "5b521380ed3ceb62f816f5cd32c9513877040ccd3a1f7a6d773aca026192fcde"), looks := false }, kinds := [], alts := [], laidByText := true, laidKinds := [.data], laidTests := true, laidLooks := .later }
def GrowExactUptoCardSaid : Prop := Claim7.holds Tryd.pinned (.plain (OpenSpec.upto growExactSpec)) growExactUptoCard

/-- THE SECOND FORM's CARD OF 'ulpkeep.GrowJoins'. -/
def growJoinsUptoCard : Claim7 := { stood := { row := growJoinsUptoRow, standIns := [], harness := (true, "5b521380ed3ceb62f816f5cd32c9513877040ccd3a1f7a6d773aca026192fcde"), looks := false }, kinds := [], alts := [], laidByText := true, laidKinds := [.data], laidTests := true, laidLooks := .later }
def GrowJoinsUptoCardSaid : Prop := Claim7.holds Tryd.pinned (.plain (OpenSpec.upto growJoinsSpec)) growJoinsUptoCard

/-- THE SECOND FORM's CARD OF 'ulpkeep.GrowSign'. -/
def growSignUptoCard : Claim7 := { stood := { row := growSignUptoRow, standIns := [], harness := (true, "5b521380ed3ceb62f816f5cd32c9513877040ccd3a1f7a6d773aca026192fcde"), looks := false }, kinds := [], alts := [], laidByText := true, laidKinds := [.data], laidTests := true, laidLooks := .later }
def GrowSignUptoCardSaid : Prop := Claim7.holds Tryd.pinned (.plain (OpenSpec.upto growSignSpec)) growSignUptoCard

/-- THE SECOND FORM's CARD OF 'ulpkeep.GrowSides'. -/
def growSidesUptoCard : Claim7 := { stood := { row := growSidesUptoRow, standIns := [], harness := (true, "5b521380ed3ceb62f816f5cd32c9513877040ccd3a1f7a6d773aca026192fcde"), looks := false }, kinds := [], alts := [], laidByText := true, laidKinds := [.data], laidTests := true, laidLooks := .later }
def GrowSidesUptoCardSaid : Prop := Claim7.holds Tryd.pinned (.plain (OpenSpec.upto growSidesSpec)) growSidesUptoCard
end Rows
end Go.Proofs.YtelblhgagpkjmaaDoor
