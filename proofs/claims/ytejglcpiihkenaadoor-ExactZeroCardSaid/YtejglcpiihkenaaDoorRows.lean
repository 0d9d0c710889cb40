/-
  NARROWER THAN 'FOR EVERY INPUT', by the rows' own cells (each row's printed sentence says how): ExactSum: laid · ExactFast: laid · ExactProd: laid · ExactSplit: laid · ExactZero: laid.
  DERIVED. THE GIVEN ROWS OF THIS SEAT. 5 by the template 'for every input the law returns true; each argument reads behind the call as it read before'; 0 by the template 'total and deterministic' (their statements: YtejglcpiihkenaaDoorTotals.lean).
  GIVEN WITH THE SEED: the statements are not yours to turn. If you find one false, say at which input.
  Laid BY PROGRAM, IN A SANDBOX (cutbox-rows.mjs): the forced cells as the released guide's own fill.sh prints them over the translation 44904fc4737ee946… (all of the seat's roots in one cut). By AI agents, Wed Nov 11 2026. No macro, syntax, notation, axiom, sorry.
-/
import Derived.Test.YtejglcpiihkenaaDoorChecked
import GoSem.Claim
import GoSem.ClaimJoined
import GoSem.ClaimMapViews
import Derived.JoinedTies
import Derived.KernelRfl
namespace Go.Proofs.YtejglcpiihkenaaDoor
/- THE CELL 'sum', in the pinned program and in every row, IS THE sha256 OF THE DUMP (.gsa) THAT YtejglcpiihkenaaDoorProg.lean LOADS. Nothing in Lean hashes anything: it is a label: what it is worth is what the hold of that sum in a sandbox is worth. -/
noncomputable def Tryd.pinned : Pinned := { name := "ytejglcpiihkenaadoor", sum := "44904fc4737ee946b6dc5ad71909d77d08e941a75561c3c9562d06372429855d", checked := Tryd.checked }
namespace Rows
def none {H : Type} : Left H := { results := [], args := [] }

/- WHAT THE LISTED PACKAGE-LEVEL VARIABLES READ AS WHEN THE CALL BEGINS. Each datum BY PROGRAM (the guide's laid-datum.mjs) off the statement by which the dump's own 'gosem.cut.vars' lays the variable. In a bare row this is a premise. The card (YtejglcpiihkenaaDoorCards.lean) ties it to the program's text. -/
def laid_math_bits_deBruijn32tab {H : Type} : DataW H := .agg [.lit (.int .u8 0), .lit (.int .u8 1), .lit (.int .u8 28), .lit (.int .u8 2), .lit (.int .u8 29), .lit (.int .u8 14), .lit (.int .u8 24), .lit (.int .u8 3), .lit (.int .u8 30), .lit (.int .u8 22), .lit (.int .u8 20), .lit (.int .u8 15), .lit (.int .u8 25), .lit (.int .u8 17), .lit (.int .u8 4), .lit (.int .u8 8), .lit (.int .u8 31), .lit (.int .u8 27), .lit (.int .u8 13), .lit (.int .u8 23), .lit (.int .u8 21), .lit (.int .u8 19), .lit (.int .u8 16), .lit (.int .u8 7), .lit (.int .u8 26), .lit (.int .u8 12), .lit (.int .u8 18), .lit (.int .u8 6), .lit (.int .u8 11), .lit (.int .u8 5), .lit (.int .u8 10), .lit (.int .u8 9)]

/-- 'ulpkeep.ExactSum': WHATEVER THE INPUT: true; the input reads as it did. -/
def exactSumSpec : ChangeSpec := { name := "exactSum", fn := fun _ => fun
  | [d1, d2] => { results := [.lit (.bool true)], args := [d1, d2] }
  | _ => none }
def exactSumRow : OpenClaim := { program := "ytejglcpiihkenaadoor", sum := "44904fc4737ee946b6dc5ad71909d77d08e941a75561c3c9562d06372429855d", func := "ulpwright/ulpkeep.ExactSum", spec := "exactSum", unfollowed := true, recurses := true, named := ["math/bits.deBruijn32tab"], apart := false, laid := [("math/bits.deBruijn32tab", laid_math_bits_deBruijn32tab)] }
def ExactSumSaid : Prop := exactSumRow.holds Tryd.pinned (OpenSpec.ofChange exactSumSpec)

/-- ITS FALSE NEIGHBOUR: 'it returns false'. Refute it at one input. -/
def exactSumWrong : ChangeSpec := { name := "exactSum", fn := fun _ => fun
  | [d1, d2] => { results := [.lit (.bool false)], args := [d1, d2] }
  | _ => none }
def ExactSumWrongFalsely : Prop := exactSumRow.holds Tryd.pinned (OpenSpec.ofChange exactSumWrong)

/-- 'ulpkeep.ExactFast': WHATEVER THE INPUT: true; the input reads as it did. -/
def exactFastSpec : ChangeSpec := { name := "exactFast", fn := fun _ => fun
  | [d1, d2] => { results := [.lit (.bool true)], args := [d1, d2] }
  | _ => none }
def exactFastRow : OpenClaim := { program := "ytejglcpiihkenaadoor", sum := "44904fc4737ee946b6dc5ad71909d77d08e941a75561c3c9562d06372429855d", func := "ulpwright/ulpkeep.ExactFast", spec := "exactFast", unfollowed := true, recurses := true, named := ["math/bits.deBruijn32tab"], apart := false, laid := [("math/bits.deBruijn32tab", laid_math_bits_deBruijn32tab)] }
def ExactFastSaid : Prop := exactFastRow.holds Tryd.pinned (OpenSpec.ofChange exactFastSpec)

/-- ITS FALSE NEIGHBOUR: 'it returns false'. Refute it at one input. -/
def exactFastWrong : ChangeSpec := { name := "exactFast", fn := fun _ => fun
  | [d1, d2] => { results := [.lit (.bool false)], args := [d1, d2] }
  | _ => none }
def ExactFastWrongFalsely : Prop := exactFastRow.holds Tryd.pinned (OpenSpec.ofChange exactFastWrong)

/-- 'ulpkeep.ExactProd': WHATEVER THE INPUT: true; the input reads as it did. -/
def exactProdSpec : ChangeSpec := { name := "exactProd", fn := fun _ => fun
  | [d1, d2] => { results := [.lit (.bool true)], args := [d1, d2] }
  | _ => none }
def exactProdRow : OpenClaim := { program := "ytejglcpiihkenaadoor", sum := "44904fc4737ee946b6dc5ad71909d77d08e941a75561c3c9562d06372429855d", func := "ulpwright/ulpkeep.ExactProd", spec := "exactProd", unfollowed := true, recurses := true, named := ["math/bits.deBruijn32tab"], apart := false, laid := [("math/bits.deBruijn32tab", laid_math_bits_deBruijn32tab)] }
def ExactProdSaid : Prop := exactProdRow.holds Tryd.pinned (OpenSpec.ofChange exactProdSpec)

/-- ITS FALSE NEIGHBOUR: 'it returns false'. Refute it at one input. -/
def exactProdWrong : ChangeSpec := { name := "exactProd", fn := fun _ => fun
  | [d1, d2] => { results := [.lit (.bool false)], args := [d1, d2] }
  | _ => none }
def ExactProdWrongFalsely : Prop := exactProdRow.holds Tryd.pinned (OpenSpec.ofChange exactProdWrong)

/-- 'ulpkeep.ExactSplit': WHATEVER THE INPUT: true; the input reads as it did. -/
def exactSplitSpec : ChangeSpec := { name := "exactSplit", fn := fun _ => fun
  | [d1, d2] => { results := [.lit (.bool true)], args := [d1, d2] }
  | _ => none }
def exactSplitRow : OpenClaim := { program := "ytejglcpiihkenaadoor", sum := "44904fc4737ee946b6dc5ad71909d77d08e941a75561c3c9562d06372429855d", func := "ulpwright/ulpkeep.ExactSplit", spec := "exactSplit", unfollowed := true, recurses := true, named := ["math/bits.deBruijn32tab"], apart := false, laid := [("math/bits.deBruijn32tab", laid_math_bits_deBruijn32tab)] }
def ExactSplitSaid : Prop := exactSplitRow.holds Tryd.pinned (OpenSpec.ofChange exactSplitSpec)

/-- ITS FALSE NEIGHBOUR: 'it returns false'. Refute it at one input. -/
def exactSplitWrong : ChangeSpec := { name := "exactSplit", fn := fun _ => fun
  | [d1, d2] => { results := [.lit (.bool false)], args := [d1, d2] }
  | _ => none }
def ExactSplitWrongFalsely : Prop := exactSplitRow.holds Tryd.pinned (OpenSpec.ofChange exactSplitWrong)

/-- 'ulpkeep.ExactZero': WHATEVER THE INPUT: true; the input reads as it did. -/
def exactZeroSpec : ChangeSpec := { name := "exactZero", fn := fun _ => fun
  | [d] => { results := [.lit (.bool true)], args := [d] }
  | _ => none }
def exactZeroRow : OpenClaim := { program := "ytejglcpiihkenaadoor", sum := "44904fc4737ee946b6dc5ad71909d77d08e941a75561c3c9562d06372429855d", func := "ulpwright/ulpkeep.ExactZero", spec := "exactZero", unfollowed := true, recurses := true, named := ["math/bits.deBruijn32tab"], apart := false, laid := [("math/bits.deBruijn32tab", laid_math_bits_deBruijn32tab)] }
def ExactZeroSaid : Prop := exactZeroRow.holds Tryd.pinned (OpenSpec.ofChange exactZeroSpec)

/-- ITS FALSE NEIGHBOUR: 'it returns false'. Refute it at one input. -/
def exactZeroWrong : ChangeSpec := { name := "exactZero", fn := fun _ => fun
  | [d] => { results := [.lit (.bool false)], args := [d] }
  | _ => none }
def ExactZeroWrongFalsely : Prop := exactZeroRow.holds Tryd.pinned (OpenSpec.ofChange exactZeroWrong)

/- THE SECOND FORM. 'bulk': how many values and letters a reading holds, each counted each time it is reached (what is shared counts as often as it is met; a slice's spare places count too). A statement '..UptoSaid' is the law's where the arguments, and the package variables that the reading takes, are together of bulk at most 1048576: NARROWER than '..Said'. Prove '..Said' where nothing that the law and all that it calls make is longer than what came in: it says more and counts as full. Else prove '..UptoSaid'. A law counts once. -/
mutual
def uptoBulk {H : Type} : DataW H → Nat
  | .lit (.string bytes) => bytes.length + 1
  | .lit _ => 1
  | .nil => 1
  | .ptr d => uptoBulk d + 1
  | .slice elems spare => uptoBulkAll elems + uptoBulkAll spare + 1
  | .agg parts => uptoBulkAll parts + 1
  | .iface _ d => uptoBulk d + 1
  | .map entries => uptoBulkEntries entries + 1
  | .held _ => 1
def uptoBulkAll {H : Type} : List (DataW H) → Nat
  | [] => 0
  | d :: r => uptoBulk d + uptoBulkAll r
def uptoBulkEntries {H : Type} : List (Lit × DataW H) → Nat
  | [] => 0
  | x :: r => uptoBulkEntry x + uptoBulkEntries r
def uptoBulkEntry {H : Type} : Lit × DataW H → Nat
  | (.string bytes, d) => bytes.length + uptoBulk d + 1
  | (_, d) => uptoBulk d + 1
 end
def uptoSmall : (H : Type) → List (DataW H) → Bool := fun _ ds => decide (uptoBulkAll ds ≤ 1048576)
def OpenSpec.upto (s : _root_.Go.ChangeSpec) : _root_.Go.OpenSpec := { _root_.Go.OpenSpec.ofChange s with cond := some uptoSmall }

/-- 'ulpkeep.ExactSum', WHERE WHAT IT READS IS OF BULK AT MOST 1048576: true; the input reads as it did. -/
def exactSumUptoRow : OpenClaim := { program := "ytejglcpiihkenaadoor", sum := "44904fc4737ee946b6dc5ad71909d77d08e941a75561c3c9562d06372429855d", func := "ulpwright/ulpkeep.ExactSum", spec := "exactSum", unfollowed := true, recurses := true, named := ["math/bits.deBruijn32tab"], apart := false, laid := [("math/bits.deBruijn32tab", laid_math_bits_deBruijn32tab)], narrowed := true }
def ExactSumUptoSaid : Prop := exactSumUptoRow.holds Tryd.pinned (OpenSpec.upto exactSumSpec)

/-- 'ulpkeep.ExactFast', WHERE WHAT IT READS IS OF BULK AT MOST 1048576: true; the input reads as it did. -/
def exactFastUptoRow : OpenClaim := { program := "ytejglcpiihkenaadoor", sum := "44904fc4737ee946b6dc5ad71909d77d08e941a75561c3c9562d06372429855d", func := "ulpwright/ulpkeep.ExactFast", spec := "exactFast", unfollowed := true, recurses := true, named := ["math/bits.deBruijn32tab"], apart := false, laid := [("math/bits.deBruijn32tab", laid_math_bits_deBruijn32tab)], narrowed := true }
def ExactFastUptoSaid : Prop := exactFastUptoRow.holds Tryd.pinned (OpenSpec.upto exactFastSpec)

/-- 'ulpkeep.ExactProd', WHERE WHAT IT READS IS OF BULK AT MOST 1048576: true; the input reads as it did. -/
def exactProdUptoRow : OpenClaim := { program := "ytejglcpiihkenaadoor", sum := "44904fc4737ee946b6dc5ad71909d77d08e941a75561c3c9562d06372429855d", func := "ulpwright/ulpkeep.ExactProd", spec := "exactProd", unfollowed := true, recurses := true, named := ["math/bits.deBruijn32tab"], apart := false, laid := [("math/bits.deBruijn32tab", laid_math_bits_deBruijn32tab)], narrowed := true }
def ExactProdUptoSaid : Prop := exactProdUptoRow.holds Tryd.pinned (OpenSpec.upto exactProdSpec)

/-- 'ulpkeep.ExactSplit', WHERE WHAT IT READS IS OF BULK AT MOST 1048576: true; the input reads as it did. -/
def exactSplitUptoRow : OpenClaim := { program := "ytejglcpiihkenaadoor", sum := "44904fc4737ee946b6dc5ad71909d77d08e941a75561c3c9562d06372429855d", func := "ulpwright/ulpkeep.ExactSplit", spec := "exactSplit", unfollowed := true, recurses := true, named := ["math/bits.deBruijn32tab"], apart := false, laid := [("math/bits.deBruijn32tab", laid_math_bits_deBruijn32tab)], narrowed := true }
def ExactSplitUptoSaid : Prop := exactSplitUptoRow.holds Tryd.pinned (OpenSpec.upto exactSplitSpec)

/-- 'ulpkeep.ExactZero', WHERE WHAT IT READS IS OF BULK AT MOST 1048576: true; the input reads as it did. -/
def exactZeroUptoRow : OpenClaim := { program := "ytejglcpiihkenaadoor", sum := "44904fc4737ee946b6dc5ad71909d77d08e941a75561c3c9562d06372429855d", func := "ulpwright/ulpkeep.ExactZero", spec := "exactZero", unfollowed := true, recurses := true, named := ["math/bits.deBruijn32tab"], apart := false, laid := [("math/bits.deBruijn32tab", laid_math_bits_deBruijn32tab)], narrowed := true }
def ExactZeroUptoSaid : Prop := exactZeroUptoRow.holds Tryd.pinned (OpenSpec.upto exactZeroSpec)

end Rows
end Go.Proofs.YtejglcpiihkenaaDoor
