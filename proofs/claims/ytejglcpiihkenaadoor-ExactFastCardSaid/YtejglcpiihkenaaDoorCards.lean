/-
  DERIVED. GIVEN WITH THE SEED: THE CARDS: each row of YtejglcpiihkenaaDoorRows.lean that lists a variable, with what it lists TIED to the program's text (the seventh form; the later family's looks); each row that meets fmt, with fmt's text TOLD by the authors' own Lean function (tested against real Go, not proved from fmt's source: count such statements apart). THE CARD IS WHAT COUNTS. Prove the row's statement (the work); the ties are given (YtejglcpiihkenaaDoorTie.lean); close each card by the builder's one call (the guide's Derived/Test/ToyasCard.lean, 'card_holds'). Laid BY PROGRAM, IN A SANDBOX (cutbox-door.mjs). By AI agents, Wed Nov 11 2026. No macro, syntax, notation, axiom, sorry.
-/
import Derived.Test.YtejglcpiihkenaaDoorRows
import GoSem.ClaimSeven
namespace Go.Proofs.YtejglcpiihkenaaDoor
namespace Rows

/-- THE TIED CARD OF 'ulpkeep.ExactSum'. -/
def exactSumCard : Claim7 := { stood := { row := exactSumRow, standIns := [], harness := (true, "24f78e830e15b12fa6fb702265529a1bf0762f62614677f3eefba74a68aa606c"), looks := false }, kinds := [], alts := [], laidByText := true, laidKinds := [.data], laidTests := true, laidLooks := .later }
def ExactSumCardSaid : Prop := Claim7.holds Tryd.pinned (.plain (OpenSpec.ofChange exactSumSpec)) exactSumCard

/-- THE TIED CARD OF 'ulpkeep.ExactFast'. -/
def exactFastCard : Claim7 := { stood := { row := exactFastRow, standIns := [], harness := (true, "24f78e830e15b12fa6fb702265529a1bf0762f62614677f3eefba74a68aa606c"), looks := false }, kinds := [], alts := [], laidByText := true, laidKinds := [.data], laidTests := true, laidLooks := .later }
def ExactFastCardSaid : Prop := Claim7.holds Tryd.pinned (.plain (OpenSpec.ofChange exactFastSpec)) exactFastCard

/-- THE TIED CARD OF 'ulpkeep.ExactProd'. -/
def exactProdCard : Claim7 := { stood := { row := exactProdRow, standIns := [], harness := (true, "24f78e830e15b12fa6fb702265529a1bf0762f62614677f3eefba74a68aa606c"), looks := false }, kinds := [], alts := [], laidByText := true, laidKinds := [.data], laidTests := true, laidLooks := .later }
def ExactProdCardSaid : Prop := Claim7.holds Tryd.pinned (.plain (OpenSpec.ofChange exactProdSpec)) exactProdCard

/-- THE TIED CARD OF 'ulpkeep.ExactSplit'. -/
def exactSplitCard : Claim7 := { stood := { row := exactSplitRow, standIns := [], harness := (true, "24f78e830e15b12fa6fb702265529a1bf0762f62614677f3eefba74a68aa606c"), looks := false }, kinds := [], alts := [], laidByText := true, laidKinds := [.data], laidTests := true, laidLooks := .later }
def ExactSplitCardSaid : Prop := Claim7.holds Tryd.pinned (.plain (OpenSpec.ofChange exactSplitSpec)) exactSplitCard

/-- THE TIED CARD OF 'ulpkeep.ExactZero'. -/
def exactZeroCard : Claim7 := { stood := { row := exactZeroRow, standIns := [], harness := (true, "24f78e830e15b12fa6fb702265529a1bf0762f62614677f3eefba74a68aa606c"), looks := false }, kinds := [], alts := [], laidByText := true, laidKinds := [.data], laidTests := true, laidLooks := .later }
def ExactZeroCardSaid : Prop := Claim7.holds Tryd.pinned (.plain (OpenSpec.ofChange exactZeroSpec)) exactZeroCard

/-- THE SECOND FORM's CARD OF 'ulpkeep.ExactSum'. -/
def exactSumUptoCard : Claim7 := { stood := { row := exactSumUptoRow, standIns := [], harness := (true, "24f78e830e15b12fa6fb702265529a1bf0762f62614677f3eefba74a68aa606c"), looks := false }, kinds := [], alts := [], laidByText := true, laidKinds := [.data], laidTests := true, laidLooks := .later }
def ExactSumUptoCardSaid : Prop := Claim7.holds Tryd.pinned (.plain (OpenSpec.upto exactSumSpec)) exactSumUptoCard

/-- THE SECOND FORM's CARD OF 'ulpkeep.ExactFast'. -/
def exactFastUptoCard : Claim7 := { stood := { row := exactFastUptoRow, standIns := [], harness := (true, "24f78e830e15b12fa6fb702265529a1bf0762f62614677f3eefba74a68aa606c"), looks := false }, kinds := [], alts := [], laidByText := true, laidKinds := [.data], laidTests := true, laidLooks := .later }
def ExactFastUptoCardSaid : Prop := Claim7.holds Tryd.pinned (.plain (OpenSpec.upto exactFastSpec)) exactFastUptoCard

/-- THE SECOND FORM's CARD OF 'ulpkeep.ExactProd'. -/
def exactProdUptoCard : Claim7 := { stood := { row := exactProdUptoRow, standIns := [], harness := (true, "24f78e830e15b12fa6fb702265529a1bf0762f62614677f3eefba74a68aa606c"), looks := false }, kinds := [], alts := [], laidByText := true, laidKinds := [.data], laidTests := true, laidLooks := .later }
def ExactProdUptoCardSaid : Prop := Claim7.holds Tryd.pinned (.plain (OpenSpec.upto exactProdSpec)) exactProdUptoCard

/-- THE SECOND FORM's CARD OF 'ulpkeep.ExactSplit'. -/
def exactSplitUptoCard : Claim7 := { stood := { row := exactSplitUptoRow, standIns := [], harness := (true, "24f78e830e15b12fa6fb702265529a1bf0762f62614677f3eefba74a68aa606c"), looks := false }, kinds := [], alts := [], laidByText := true, laidKinds := [.data], laidTests := true, laidLooks := .later }
def ExactSplitUptoCardSaid : Prop := Claim7.holds Tryd.pinned (.plain (OpenSpec.upto exactSplitSpec)) exactSplitUptoCard

/-- THE SECOND FORM's CARD OF 'ulpkeep.ExactZero'. -/
def exactZeroUptoCard : Claim7 := { stood := { row := exactZeroUptoRow, standIns := [], harness := (true, "24f78e830e15b12fa6fb702265529a1bf0762f62614677f3eefba74a68aa606c"), looks := false }, kinds := [], alts := [], laidByText := true, laidKinds := [.data], laidTests := true, laidLooks := .later }
def ExactZeroUptoCardSaid : Prop := Claim7.holds Tryd.pinned (.plain (OpenSpec.upto exactZeroSpec)) exactZeroUptoCard
end Rows
end Go.Proofs.YtejglcpiihkenaaDoor
