/-
  NARROWER THAN 'FOR EVERY INPUT', by the rows' own cells (each row's printed sentence says how): DyadMakes: laid · DyadSums: laid · RoundSays: laid · RoundCuts: laid · RoundSame: laid · RoundOrder: laid · RoundSides: laid · RoundNear: laid · RoundTurned: laid · RoundParts: laid · RoundCutTwice: laid.
  DERIVED. THE GIVEN ROWS OF THIS SEAT. 11 by the template 'for every input the law returns true; each argument reads behind the call as it read before'; 0 by the template 'total and deterministic' (their statements: YtnlgkhgighhfjaaDoorTotals.lean).
  GIVEN WITH THE SEED: the statements are not yours to turn. If you find one false, say at which input.
  Laid BY PROGRAM, IN A SANDBOX (cutbox-rows.mjs): the forced cells as the released guide's own fill.sh prints them over the translation 05a2d696a1553bb8… (all of the seat's roots in one cut). By AI agents, Wed Nov 11 2026. No macro, syntax, notation, axiom, sorry.
-/
import Derived.Test.YtnlgkhgighhfjaaDoorChecked
import GoSem.Claim
import GoSem.ClaimJoined
import GoSem.ClaimMapViews
import Derived.JoinedTies
import Derived.KernelRfl
namespace Go.Proofs.YtnlgkhgighhfjaaDoor
/- THE CELL 'sum', in the pinned program and in every row, IS THE sha256 OF THE DUMP (.gsa) THAT YtnlgkhgighhfjaaDoorProg.lean LOADS. Nothing in Lean hashes anything: it is a label: what it is worth is what the hold of that sum in a sandbox is worth. -/
noncomputable def Tryd.pinned : Pinned := { name := "ytnlgkhgighhfjaadoor", sum := "05a2d696a1553bb81ef96efd28fd5ba66a94a4ccc58d30df9f6789e758223f5f", checked := Tryd.checked }
namespace Rows
def none {H : Type} : Left H := { results := [], args := [] }

/- WHAT THE LISTED PACKAGE-LEVEL VARIABLES READ AS WHEN THE CALL BEGINS. Each datum BY PROGRAM (the guide's laid-datum.mjs) off the statement by which the dump's own 'gosem.cut.vars' lays the variable. In a bare row this is a premise. The card (YtnlgkhgighhfjaaDoorCards.lean) ties it to the program's text. -/
def laid_math_bits_deBruijn32tab {H : Type} : DataW H := .agg [.lit (.int .u8 0), .lit (.int .u8 1), .lit (.int .u8 28), .lit (.int .u8 2), .lit (.int .u8 29), .lit (.int .u8 14), .lit (.int .u8 24), .lit (.int .u8 3), .lit (.int .u8 30), .lit (.int .u8 22), .lit (.int .u8 20), .lit (.int .u8 15), .lit (.int .u8 25), .lit (.int .u8 17), .lit (.int .u8 4), .lit (.int .u8 8), .lit (.int .u8 31), .lit (.int .u8 27), .lit (.int .u8 13), .lit (.int .u8 23), .lit (.int .u8 21), .lit (.int .u8 19), .lit (.int .u8 16), .lit (.int .u8 7), .lit (.int .u8 26), .lit (.int .u8 12), .lit (.int .u8 18), .lit (.int .u8 6), .lit (.int .u8 11), .lit (.int .u8 5), .lit (.int .u8 10), .lit (.int .u8 9)]

/-- 'ulplaw.DyadMakes': WHATEVER THE INPUT: true; the input reads as it did. -/
def dyadMakesSpec : ChangeSpec := { name := "dyadMakes", fn := fun _ => fun
  | [d1, d2, d3, d4, d5, d6] => { results := [.lit (.bool true)], args := [d1, d2, d3, d4, d5, d6] }
  | _ => none }
def dyadMakesRow : OpenClaim := { program := "ytnlgkhgighhfjaadoor", sum := "05a2d696a1553bb81ef96efd28fd5ba66a94a4ccc58d30df9f6789e758223f5f", func := "ulpwright/ulplaw.DyadMakes", spec := "dyadMakes", recurses := true, named := ["math/bits.deBruijn32tab"], apart := false, laid := [("math/bits.deBruijn32tab", laid_math_bits_deBruijn32tab)] }
def DyadMakesSaid : Prop := dyadMakesRow.holds Tryd.pinned (OpenSpec.ofChange dyadMakesSpec)

/-- ITS FALSE NEIGHBOUR: 'it returns false'. Refute it at one input. -/
def dyadMakesWrong : ChangeSpec := { name := "dyadMakes", fn := fun _ => fun
  | [d1, d2, d3, d4, d5, d6] => { results := [.lit (.bool false)], args := [d1, d2, d3, d4, d5, d6] }
  | _ => none }
def DyadMakesWrongFalsely : Prop := dyadMakesRow.holds Tryd.pinned (OpenSpec.ofChange dyadMakesWrong)

/-- 'ulplaw.DyadSums': WHATEVER THE INPUT: true; the input reads as it did. -/
def dyadSumsSpec : ChangeSpec := { name := "dyadSums", fn := fun _ => fun
  | [d1, d2, d3] => { results := [.lit (.bool true)], args := [d1, d2, d3] }
  | _ => none }
def dyadSumsRow : OpenClaim := { program := "ytnlgkhgighhfjaadoor", sum := "05a2d696a1553bb81ef96efd28fd5ba66a94a4ccc58d30df9f6789e758223f5f", func := "ulpwright/ulplaw.DyadSums", spec := "dyadSums", recurses := true, named := ["math/bits.deBruijn32tab"], apart := false, laid := [("math/bits.deBruijn32tab", laid_math_bits_deBruijn32tab)] }
def DyadSumsSaid : Prop := dyadSumsRow.holds Tryd.pinned (OpenSpec.ofChange dyadSumsSpec)

/-- ITS FALSE NEIGHBOUR: 'it returns false'. Refute it at one input. -/
def dyadSumsWrong : ChangeSpec := { name := "dyadSums", fn := fun _ => fun
  | [d1, d2, d3] => { results := [.lit (.bool false)], args := [d1, d2, d3] }
  | _ => none }
def DyadSumsWrongFalsely : Prop := dyadSumsRow.holds Tryd.pinned (OpenSpec.ofChange dyadSumsWrong)

/-- 'ulplaw.RoundSays': WHATEVER THE INPUT: true; the input reads as it did. -/
def roundSaysSpec : ChangeSpec := { name := "roundSays", fn := fun _ => fun
  | [d1, d2, d3] => { results := [.lit (.bool true)], args := [d1, d2, d3] }
  | _ => none }
def roundSaysRow : OpenClaim := { program := "ytnlgkhgighhfjaadoor", sum := "05a2d696a1553bb81ef96efd28fd5ba66a94a4ccc58d30df9f6789e758223f5f", func := "ulpwright/ulplaw.RoundSays", spec := "roundSays", unfollowed := true, recurses := true, named := ["math/bits.deBruijn32tab"], apart := false, laid := [("math/bits.deBruijn32tab", laid_math_bits_deBruijn32tab)] }
def RoundSaysSaid : Prop := roundSaysRow.holds Tryd.pinned (OpenSpec.ofChange roundSaysSpec)

/-- ITS FALSE NEIGHBOUR: 'it returns false'. Refute it at one input. -/
def roundSaysWrong : ChangeSpec := { name := "roundSays", fn := fun _ => fun
  | [d1, d2, d3] => { results := [.lit (.bool false)], args := [d1, d2, d3] }
  | _ => none }
def RoundSaysWrongFalsely : Prop := roundSaysRow.holds Tryd.pinned (OpenSpec.ofChange roundSaysWrong)

/-- 'ulplaw.RoundCuts': WHATEVER THE INPUT: true; the input reads as it did. -/
def roundCutsSpec : ChangeSpec := { name := "roundCuts", fn := fun _ => fun
  | [d1, d2, d3] => { results := [.lit (.bool true)], args := [d1, d2, d3] }
  | _ => none }
def roundCutsRow : OpenClaim := { program := "ytnlgkhgighhfjaadoor", sum := "05a2d696a1553bb81ef96efd28fd5ba66a94a4ccc58d30df9f6789e758223f5f", func := "ulpwright/ulplaw.RoundCuts", spec := "roundCuts", recurses := true, named := ["math/bits.deBruijn32tab"], apart := false, laid := [("math/bits.deBruijn32tab", laid_math_bits_deBruijn32tab)] }
def RoundCutsSaid : Prop := roundCutsRow.holds Tryd.pinned (OpenSpec.ofChange roundCutsSpec)

/-- ITS FALSE NEIGHBOUR: 'it returns false'. Refute it at one input. -/
def roundCutsWrong : ChangeSpec := { name := "roundCuts", fn := fun _ => fun
  | [d1, d2, d3] => { results := [.lit (.bool false)], args := [d1, d2, d3] }
  | _ => none }
def RoundCutsWrongFalsely : Prop := roundCutsRow.holds Tryd.pinned (OpenSpec.ofChange roundCutsWrong)

/-- 'ulpkeep.RoundSame': WHATEVER THE INPUT: true; the input reads as it did. -/
def roundSameSpec : ChangeSpec := { name := "roundSame", fn := fun _ => fun
  | [d1, d2] => { results := [.lit (.bool true)], args := [d1, d2] }
  | _ => none }
def roundSameRow : OpenClaim := { program := "ytnlgkhgighhfjaadoor", sum := "05a2d696a1553bb81ef96efd28fd5ba66a94a4ccc58d30df9f6789e758223f5f", func := "ulpwright/ulpkeep.RoundSame", spec := "roundSame", named := ["math/bits.deBruijn32tab"], apart := false, laid := [("math/bits.deBruijn32tab", laid_math_bits_deBruijn32tab)] }
def RoundSameSaid : Prop := roundSameRow.holds Tryd.pinned (OpenSpec.ofChange roundSameSpec)

/-- ITS FALSE NEIGHBOUR: 'it returns false'. Refute it at one input. -/
def roundSameWrong : ChangeSpec := { name := "roundSame", fn := fun _ => fun
  | [d1, d2] => { results := [.lit (.bool false)], args := [d1, d2] }
  | _ => none }
def RoundSameWrongFalsely : Prop := roundSameRow.holds Tryd.pinned (OpenSpec.ofChange roundSameWrong)

/-- 'ulpkeep.RoundOrder': WHATEVER THE INPUT: true; the input reads as it did. -/
def roundOrderSpec : ChangeSpec := { name := "roundOrder", fn := fun _ => fun
  | [d1, d2, d3] => { results := [.lit (.bool true)], args := [d1, d2, d3] }
  | _ => none }
def roundOrderRow : OpenClaim := { program := "ytnlgkhgighhfjaadoor", sum := "05a2d696a1553bb81ef96efd28fd5ba66a94a4ccc58d30df9f6789e758223f5f", func := "ulpwright/ulpkeep.RoundOrder", spec := "roundOrder", named := ["math/bits.deBruijn32tab"], apart := false, laid := [("math/bits.deBruijn32tab", laid_math_bits_deBruijn32tab)] }
def RoundOrderSaid : Prop := roundOrderRow.holds Tryd.pinned (OpenSpec.ofChange roundOrderSpec)

/-- ITS FALSE NEIGHBOUR: 'it returns false'. Refute it at one input. -/
def roundOrderWrong : ChangeSpec := { name := "roundOrder", fn := fun _ => fun
  | [d1, d2, d3] => { results := [.lit (.bool false)], args := [d1, d2, d3] }
  | _ => none }
def RoundOrderWrongFalsely : Prop := roundOrderRow.holds Tryd.pinned (OpenSpec.ofChange roundOrderWrong)

/-- 'ulpkeep.RoundSides': WHATEVER THE INPUT: true; the input reads as it did. -/
def roundSidesSpec : ChangeSpec := { name := "roundSides", fn := fun _ => fun
  | [d1, d2] => { results := [.lit (.bool true)], args := [d1, d2] }
  | _ => none }
def roundSidesRow : OpenClaim := { program := "ytnlgkhgighhfjaadoor", sum := "05a2d696a1553bb81ef96efd28fd5ba66a94a4ccc58d30df9f6789e758223f5f", func := "ulpwright/ulpkeep.RoundSides", spec := "roundSides", named := ["math/bits.deBruijn32tab"], apart := false, laid := [("math/bits.deBruijn32tab", laid_math_bits_deBruijn32tab)] }
def RoundSidesSaid : Prop := roundSidesRow.holds Tryd.pinned (OpenSpec.ofChange roundSidesSpec)

/-- ITS FALSE NEIGHBOUR: 'it returns false'. Refute it at one input. -/
def roundSidesWrong : ChangeSpec := { name := "roundSides", fn := fun _ => fun
  | [d1, d2] => { results := [.lit (.bool false)], args := [d1, d2] }
  | _ => none }
def RoundSidesWrongFalsely : Prop := roundSidesRow.holds Tryd.pinned (OpenSpec.ofChange roundSidesWrong)

/-- 'ulpkeep.RoundNear': WHATEVER THE INPUT: true; the input reads as it did. -/
def roundNearSpec : ChangeSpec := { name := "roundNear", fn := fun _ => fun
  | [d1, d2, d3] => { results := [.lit (.bool true)], args := [d1, d2, d3] }
  | _ => none }
def roundNearRow : OpenClaim := { program := "ytnlgkhgighhfjaadoor", sum := "05a2d696a1553bb81ef96efd28fd5ba66a94a4ccc58d30df9f6789e758223f5f", func := "ulpwright/ulpkeep.RoundNear", spec := "roundNear", named := ["math/bits.deBruijn32tab"], apart := false, laid := [("math/bits.deBruijn32tab", laid_math_bits_deBruijn32tab)] }
def RoundNearSaid : Prop := roundNearRow.holds Tryd.pinned (OpenSpec.ofChange roundNearSpec)

/-- ITS FALSE NEIGHBOUR: 'it returns false'. Refute it at one input. -/
def roundNearWrong : ChangeSpec := { name := "roundNear", fn := fun _ => fun
  | [d1, d2, d3] => { results := [.lit (.bool false)], args := [d1, d2, d3] }
  | _ => none }
def RoundNearWrongFalsely : Prop := roundNearRow.holds Tryd.pinned (OpenSpec.ofChange roundNearWrong)

/-- 'ulpkeep.RoundTurned': WHATEVER THE INPUT: true; the input reads as it did. -/
def roundTurnedSpec : ChangeSpec := { name := "roundTurned", fn := fun _ => fun
  | [d1, d2] => { results := [.lit (.bool true)], args := [d1, d2] }
  | _ => none }
def roundTurnedRow : OpenClaim := { program := "ytnlgkhgighhfjaadoor", sum := "05a2d696a1553bb81ef96efd28fd5ba66a94a4ccc58d30df9f6789e758223f5f", func := "ulpwright/ulpkeep.RoundTurned", spec := "roundTurned", named := ["math/bits.deBruijn32tab"], apart := false, laid := [("math/bits.deBruijn32tab", laid_math_bits_deBruijn32tab)] }
def RoundTurnedSaid : Prop := roundTurnedRow.holds Tryd.pinned (OpenSpec.ofChange roundTurnedSpec)

/-- ITS FALSE NEIGHBOUR: 'it returns false'. Refute it at one input. -/
def roundTurnedWrong : ChangeSpec := { name := "roundTurned", fn := fun _ => fun
  | [d1, d2] => { results := [.lit (.bool false)], args := [d1, d2] }
  | _ => none }
def RoundTurnedWrongFalsely : Prop := roundTurnedRow.holds Tryd.pinned (OpenSpec.ofChange roundTurnedWrong)

/-- 'ulpkeep.RoundParts': WHATEVER THE INPUT: true; the input reads as it did. -/
def roundPartsSpec : ChangeSpec := { name := "roundParts", fn := fun _ => fun
  | [d1, d2] => { results := [.lit (.bool true)], args := [d1, d2] }
  | _ => none }
def roundPartsRow : OpenClaim := { program := "ytnlgkhgighhfjaadoor", sum := "05a2d696a1553bb81ef96efd28fd5ba66a94a4ccc58d30df9f6789e758223f5f", func := "ulpwright/ulpkeep.RoundParts", spec := "roundParts", named := ["math/bits.deBruijn32tab"], apart := false, laid := [("math/bits.deBruijn32tab", laid_math_bits_deBruijn32tab)] }
def RoundPartsSaid : Prop := roundPartsRow.holds Tryd.pinned (OpenSpec.ofChange roundPartsSpec)

/-- ITS FALSE NEIGHBOUR: 'it returns false'. Refute it at one input. -/
def roundPartsWrong : ChangeSpec := { name := "roundParts", fn := fun _ => fun
  | [d1, d2] => { results := [.lit (.bool false)], args := [d1, d2] }
  | _ => none }
def RoundPartsWrongFalsely : Prop := roundPartsRow.holds Tryd.pinned (OpenSpec.ofChange roundPartsWrong)

/-- 'ulpkeep.RoundCutTwice': WHATEVER THE INPUT: true; the input reads as it did. -/
def roundCutTwiceSpec : ChangeSpec := { name := "roundCutTwice", fn := fun _ => fun
  | [d1, d2, d3, d4] => { results := [.lit (.bool true)], args := [d1, d2, d3, d4] }
  | _ => none }
def roundCutTwiceRow : OpenClaim := { program := "ytnlgkhgighhfjaadoor", sum := "05a2d696a1553bb81ef96efd28fd5ba66a94a4ccc58d30df9f6789e758223f5f", func := "ulpwright/ulpkeep.RoundCutTwice", spec := "roundCutTwice", named := ["math/bits.deBruijn32tab"], apart := false, laid := [("math/bits.deBruijn32tab", laid_math_bits_deBruijn32tab)] }
def RoundCutTwiceSaid : Prop := roundCutTwiceRow.holds Tryd.pinned (OpenSpec.ofChange roundCutTwiceSpec)

/-- ITS FALSE NEIGHBOUR: 'it returns false'. Refute it at one input. -/
def roundCutTwiceWrong : ChangeSpec := { name := "roundCutTwice", fn := fun _ => fun
  | [d1, d2, d3, d4] => { results := [.lit (.bool false)], args := [d1, d2, d3, d4] }
  | _ => none }
def RoundCutTwiceWrongFalsely : Prop := roundCutTwiceRow.holds Tryd.pinned (OpenSpec.ofChange roundCutTwiceWrong)

/- THE SECOND FORM. 'bulk': how many values and letters a reading holds, each counted each time it is reached (what is shared counts as often as it is met; a slice's spare places count too). A statement '..UptoSaid' is the law's where the arguments, and the package variables that the reading takes, are together of bulk at most 1048576: NARROWER than '..Said'. Prove '..Said' where nothing that the law and all that it calls make is longer than what came in: it says more and counts as full. Else prove '..UptoSaid'. A law counts once. -/
mutual
def uptoBulk {H : Type} : DataW H → Nat
  | .lit (.string bytes) => bytes.length + 1
  | .lit _ => 1
  | .nil => 1
  | .ptr d => uptoBulk d + 1
  | .slice elems spare => uptoBulkAll elems + uptoBulkAll spare + 1
  | .agg parts => uptoBulkAll parts + 1
  | .iface _ d => uptoBulk d + 1
  | .map entries => uptoBulkEntries entries + 1
  | .held _ => 1
def uptoBulkAll {H : Type} : List (DataW H) → Nat
  | [] => 0
  | d :: r => uptoBulk d + uptoBulkAll r
def uptoBulkEntries {H : Type} : List (Lit × DataW H) → Nat
  | [] => 0
  | x :: r => uptoBulkEntry x + uptoBulkEntries r
def uptoBulkEntry {H : Type} : Lit × DataW H → Nat
  | (.string bytes, d) => bytes.length + uptoBulk d + 1
  | (_, d) => uptoBulk d + 1
 end
def uptoSmall : (H : Type) → List (DataW H) → Bool := fun _ ds => decide (uptoBulkAll ds ≤ 1048576)
def OpenSpec.upto (s : _root_.Go.ChangeSpec) : _root_.Go.OpenSpec := { _root_.Go.OpenSpec.ofChange s with cond := some uptoSmall }

/-- 'ulplaw.DyadMakes', WHERE WHAT IT READS IS OF BULK AT MOST 1048576: true; the input reads as it did. -/
def dyadMakesUptoRow : OpenClaim := { program := "ytnlgkhgighhfjaadoor", sum := "05a2d696a1553bb81ef96efd28fd5ba66a94a4ccc58d30df9f6789e758223f5f", func := "ulpwright/ulplaw.DyadMakes", spec := "dyadMakes", recurses := true, named := ["math/bits.deBruijn32tab"], apart := false, laid := [("math/bits.deBruijn32tab", laid_math_bits_deBruijn32tab)], narrowed := true }
def DyadMakesUptoSaid : Prop := dyadMakesUptoRow.holds Tryd.pinned (OpenSpec.upto dyadMakesSpec)

/-- 'ulplaw.DyadSums', WHERE WHAT IT READS IS OF BULK AT MOST 1048576: true; the input reads as it did. -/
def dyadSumsUptoRow : OpenClaim := { program := "ytnlgkhgighhfjaadoor", sum := "05a2d696a1553bb81ef96efd28fd5ba66a94a4ccc58d30df9f6789e758223f5f", func := "ulpwright/ulplaw.DyadSums", spec := "dyadSums", recurses := true, named := ["math/bits.deBruijn32tab"], apart := false, laid := [("math/bits.deBruijn32tab", laid_math_bits_deBruijn32tab)], narrowed := true }
def DyadSumsUptoSaid : Prop := dyadSumsUptoRow.holds Tryd.pinned (OpenSpec.upto dyadSumsSpec)

/-- 'ulplaw.RoundSays', WHERE WHAT IT READS IS OF BULK AT MOST 1048576: true; the input reads as it did. -/
def roundSaysUptoRow : OpenClaim := { program := "ytnlgkhgighhfjaadoor", sum := "05a2d696a1553bb81ef96efd28fd5ba66a94a4ccc58d30df9f6789e758223f5f", func := "ulpwright/ulplaw.RoundSays", spec := "roundSays", unfollowed := true, recurses := true, named := ["math/bits.deBruijn32tab"], apart := false, laid := [("math/bits.deBruijn32tab", laid_math_bits_deBruijn32tab)], narrowed := true }
def RoundSaysUptoSaid : Prop := roundSaysUptoRow.holds Tryd.pinned (OpenSpec.upto roundSaysSpec)

/-- 'ulplaw.RoundCuts', WHERE WHAT IT READS IS OF BULK AT MOST 1048576: true; the input reads as it did. -/
def roundCutsUptoRow : OpenClaim := { program := "ytnlgkhgighhfjaadoor", sum := "05a2d696a1553bb81ef96efd28fd5ba66a94a4ccc58d30df9f6789e758223f5f", func := "ulpwright/ulplaw.RoundCuts", spec := "roundCuts", recurses := true, named := ["math/bits.deBruijn32tab"], apart := false, laid := [("math/bits.deBruijn32tab", laid_math_bits_deBruijn32tab)], narrowed := true }
def RoundCutsUptoSaid : Prop := roundCutsUptoRow.holds Tryd.pinned (OpenSpec.upto roundCutsSpec)

/-- 'ulpkeep.RoundSame', WHERE WHAT IT READS IS OF BULK AT MOST 1048576: true; the input reads as it did. -/
def roundSameUptoRow : OpenClaim := { program := "ytnlgkhgighhfjaadoor", sum := "05a2d696a1553bb81ef96efd28fd5ba66a94a4ccc58d30df9f6789e758223f5f", func := "ulpwright/ulpkeep.RoundSame", spec := "roundSame", named := ["math/bits.deBruijn32tab"], apart := false, laid := [("math/bits.deBruijn32tab", laid_math_bits_deBruijn32tab)], narrowed := true }
def RoundSameUptoSaid : Prop := roundSameUptoRow.holds Tryd.pinned (OpenSpec.upto roundSameSpec)

/-- 'ulpkeep.RoundOrder', WHERE WHAT IT READS IS OF BULK AT MOST 1048576: true; the input reads as it did. -/
def roundOrderUptoRow : OpenClaim := { program := "ytnlgkhgighhfjaadoor", sum := "05a2d696a1553bb81ef96efd28fd5ba66a94a4ccc58d30df9f6789e758223f5f", func := "ulpwright/ulpkeep.RoundOrder", spec := "roundOrder", named := ["math/bits.deBruijn32tab"], apart := false, laid := [("math/bits.deBruijn32tab", laid_math_bits_deBruijn32tab)], narrowed := true }
def RoundOrderUptoSaid : Prop := roundOrderUptoRow.holds Tryd.pinned (OpenSpec.upto roundOrderSpec)

/-- 'ulpkeep.RoundSides', WHERE WHAT IT READS IS OF BULK AT MOST 1048576: true; the input reads as it did. -/
def roundSidesUptoRow : OpenClaim := { program := "ytnlgkhgighhfjaadoor", sum := "05a2d696a1553bb81ef96efd28fd5ba66a94a4ccc58d30df9f6789e758223f5f", func := "ulpwright/ulpkeep.RoundSides", spec := "roundSides", named := ["math/bits.deBruijn32tab"], apart := false, laid := [("math/bits.deBruijn32tab", laid_math_bits_deBruijn32tab)], narrowed := true }
def RoundSidesUptoSaid : Prop := roundSidesUptoRow.holds Tryd.pinned (OpenSpec.upto roundSidesSpec)

/-- 'ulpkeep.RoundNear', WHERE WHAT IT READS IS OF BULK AT MOST 1048576: true; the input reads as it did. -/
def roundNearUptoRow : OpenClaim := { program := "ytnlgkhgighhfjaadoor", sum := "05a2d696a1553bb81ef96efd28fd5ba66a94a4ccc58d30df9f6789e758223f5f", func := "ulpwright/ulpkeep.RoundNear", spec := "roundNear", named := ["math/bits.deBruijn32tab"], apart := false, laid := [("math/bits.deBruijn32tab", laid_math_bits_deBruijn32tab)], narrowed := true }
def RoundNearUptoSaid : Prop := roundNearUptoRow.holds Tryd.pinned (OpenSpec.upto roundNearSpec)

/-- 'ulpkeep.RoundTurned', WHERE WHAT IT READS IS OF BULK AT MOST 1048576: true; the input reads as it did. -/
def roundTurnedUptoRow : OpenClaim := { program := "ytnlgkhgighhfjaadoor", sum := "05a2d696a1553bb81ef96efd28fd5ba66a94a4ccc58d30df9f6789e758223f5f", func := "ulpwright/ulpkeep.RoundTurned", spec := "roundTurned", named := ["math/bits.deBruijn32tab"], apart := false, laid := [("math/bits.deBruijn32tab", laid_math_bits_deBruijn32tab)], narrowed := true }
def RoundTurnedUptoSaid : Prop := roundTurnedUptoRow.holds Tryd.pinned (OpenSpec.upto roundTurnedSpec)

/-- 'ulpkeep.RoundParts', WHERE WHAT IT READS IS OF BULK AT MOST 1048576: true; the input reads as it did. -/
def roundPartsUptoRow : OpenClaim := { program := "ytnlgkhgighhfjaadoor", sum := "05a2d696a1553bb81ef96efd28fd5ba66a94a4ccc58d30df9f6789e758223f5f", func := "ulpwright/ulpkeep.RoundParts", spec := "roundParts", named := ["math/bits.deBruijn32tab"], apart := false, laid := [("math/bits.deBruijn32tab", laid_math_bits_deBruijn32tab)], narrowed := true }
def RoundPartsUptoSaid : Prop := roundPartsUptoRow.holds Tryd.pinned (OpenSpec.upto roundPartsSpec)

/-- 'ulpkeep.RoundCutTwice', WHERE WHAT IT READS IS OF BULK AT MOST 1048576: true; the input reads as it did. -/
def roundCutTwiceUptoRow : OpenClaim := { program := "ytnlgkhgighhfjaadoor", sum := "05a2d696a1553bb81ef96efd28fd5ba66a94a4ccc58d30df9f6789e758223f5f", func := "ulpwright/ulpkeep.RoundCutTwice", spec := "roundCutTwice", named := ["math/bits.deBruijn32tab"], apart := false, laid := [("math/bits.deBruijn32tab", laid_math_bits_deBruijn32tab)], narrowed := true }
def RoundCutTwiceUptoSaid : Prop := roundCutTwiceUptoRow.holds Tryd.pinned (OpenSpec.upto roundCutTwiceSpec)

end Rows
end Go.Proofs.YtnlgkhgighhfjaaDoor
