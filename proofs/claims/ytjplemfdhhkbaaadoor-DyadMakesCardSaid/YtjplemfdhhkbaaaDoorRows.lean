/-
  NARROWER THAN 'FOR EVERY INPUT', by the rows' own cells (each row's printed sentence says how): DyadMakes: laid · DyadSums: laid · RoundCuts: laid · ProdDot: laid · ProdCommutes: laid · ProdFused: laid · ProdOrder: laid · ProdPowers: laid · ProdDots: laid · ProdExact: laid.
  DERIVED. THE GIVEN ROWS OF THIS SEAT. 10 by the template 'for every input the law returns true; each argument reads behind the call as it read before'; 0 by the template 'total and deterministic' (their statements: YtjplemfdhhkbaaaDoorTotals.lean).
  GIVEN WITH THE SEED: the statements are not yours to turn. If you find one false, say at which input.
  Laid BY PROGRAM, IN A SANDBOX (cutbox-rows.mjs): the forced cells as the released guide's own fill.sh prints them over the translation 00d5132ca1873419… (all of the seat's roots in one cut). By AI agents, Wed Nov 11 2026. No macro, syntax, notation, axiom, sorry.
-/
import Derived.Test.YtjplemfdhhkbaaaDoorChecked
import GoSem.Claim
import GoSem.ClaimJoined
import GoSem.ClaimMapViews
import Derived.JoinedTies
import Derived.KernelRfl
namespace Go.Proofs.YtjplemfdhhkbaaaDoor
/- THE CELL 'sum', in the pinned program and in every row, IS THE sha256 OF THE DUMP (.gsa) THAT YtjplemfdhhkbaaaDoorProg.lean LOADS. Nothing in Lean hashes anything: it is a label: what it is worth is what the hold of that sum in a sandbox is worth. -/
noncomputable def Tryd.pinned : Pinned := { name := "ytjplemfdhhkbaaadoor", sum := "00d5132ca1873419f1e6d3114852041631937c190a1f96442f72f6e507c43e37", checked := Tryd.checked }
namespace Rows
def none {H : Type} : Left H := { results := [], args := [] }

/- WHAT THE LISTED PACKAGE-LEVEL VARIABLES READ AS WHEN THE CALL BEGINS. Each datum BY PROGRAM (the guide's laid-datum.mjs) off the statement by which the dump's own 'gosem.cut.vars' lays the variable. In a bare row this is a premise. The card (YtjplemfdhhkbaaaDoorCards.lean) ties it to the program's text. -/
def laid_math_bits_deBruijn32tab {H : Type} : DataW H := .agg [.lit (.int .u8 0), .lit (.int .u8 1), .lit (.int .u8 28), .lit (.int .u8 2), .lit (.int .u8 29), .lit (.int .u8 14), .lit (.int .u8 24), .lit (.int .u8 3), .lit (.int .u8 30), .lit (.int .u8 22), .lit (.int .u8 20), .lit (.int .u8 15), .lit (.int .u8 25), .lit (.int .u8 17), .lit (.int .u8 4), .lit (.int .u8 8), .lit (.int .u8 31), .lit (.int .u8 27), .lit (.int .u8 13), .lit (.int .u8 23), .lit (.int .u8 21), .lit (.int .u8 19), .lit (.int .u8 16), .lit (.int .u8 7), .lit (.int .u8 26), .lit (.int .u8 12), .lit (.int .u8 18), .lit (.int .u8 6), .lit (.int .u8 11), .lit (.int .u8 5), .lit (.int .u8 10), .lit (.int .u8 9)]

/-- 'ulplaw.DyadMakes': WHATEVER THE INPUT: true; the input reads as it did. -/
def dyadMakesSpec : ChangeSpec := { name := "dyadMakes", fn := fun _ => fun
  | [d1, d2, d3, d4, d5, d6] => { results := [.lit (.bool true)], args := [d1, d2, d3, d4, d5, d6] }
  | _ => none }
def dyadMakesRow : OpenClaim := { program := "ytjplemfdhhkbaaadoor", sum := "00d5132ca1873419f1e6d3114852041631937c190a1f96442f72f6e507c43e37", func := "ulpwright/ulplaw.DyadMakes", spec := "dyadMakes", recurses := true, named := ["math/bits.deBruijn32tab"], apart := false, laid := [("math/bits.deBruijn32tab", laid_math_bits_deBruijn32tab)] }
def DyadMakesSaid : Prop := dyadMakesRow.holds Tryd.pinned (OpenSpec.ofChange dyadMakesSpec)

/-- ITS FALSE NEIGHBOUR: 'it returns false'. Refute it at one input. -/
def dyadMakesWrong : ChangeSpec := { name := "dyadMakes", fn := fun _ => fun
  | [d1, d2, d3, d4, d5, d6] => { results := [.lit (.bool false)], args := [d1, d2, d3, d4, d5, d6] }
  | _ => none }
def DyadMakesWrongFalsely : Prop := dyadMakesRow.holds Tryd.pinned (OpenSpec.ofChange dyadMakesWrong)

/-- 'ulplaw.DyadSums': WHATEVER THE INPUT: true; the input reads as it did. -/
def dyadSumsSpec : ChangeSpec := { name := "dyadSums", fn := fun _ => fun
  | [d1, d2, d3] => { results := [.lit (.bool true)], args := [d1, d2, d3] }
  | _ => none }
def dyadSumsRow : OpenClaim := { program := "ytjplemfdhhkbaaadoor", sum := "00d5132ca1873419f1e6d3114852041631937c190a1f96442f72f6e507c43e37", func := "ulpwright/ulplaw.DyadSums", spec := "dyadSums", recurses := true, named := ["math/bits.deBruijn32tab"], apart := false, laid := [("math/bits.deBruijn32tab", laid_math_bits_deBruijn32tab)] }
def DyadSumsSaid : Prop := dyadSumsRow.holds Tryd.pinned (OpenSpec.ofChange dyadSumsSpec)

/-- ITS FALSE NEIGHBOUR: 'it returns false'. Refute it at one input. -/
def dyadSumsWrong : ChangeSpec := { name := "dyadSums", fn := fun _ => fun
  | [d1, d2, d3] => { results := [.lit (.bool false)], args := [d1, d2, d3] }
  | _ => none }
def DyadSumsWrongFalsely : Prop := dyadSumsRow.holds Tryd.pinned (OpenSpec.ofChange dyadSumsWrong)

/-- 'ulplaw.RoundCuts': WHATEVER THE INPUT: true; the input reads as it did. -/
def roundCutsSpec : ChangeSpec := { name := "roundCuts", fn := fun _ => fun
  | [d1, d2, d3] => { results := [.lit (.bool true)], args := [d1, d2, d3] }
  | _ => none }
def roundCutsRow : OpenClaim := { program := "ytjplemfdhhkbaaadoor", sum := "00d5132ca1873419f1e6d3114852041631937c190a1f96442f72f6e507c43e37", func := "ulpwright/ulplaw.RoundCuts", spec := "roundCuts", recurses := true, named := ["math/bits.deBruijn32tab"], apart := false, laid := [("math/bits.deBruijn32tab", laid_math_bits_deBruijn32tab)] }
def RoundCutsSaid : Prop := roundCutsRow.holds Tryd.pinned (OpenSpec.ofChange roundCutsSpec)

/-- ITS FALSE NEIGHBOUR: 'it returns false'. Refute it at one input. -/
def roundCutsWrong : ChangeSpec := { name := "roundCuts", fn := fun _ => fun
  | [d1, d2, d3] => { results := [.lit (.bool false)], args := [d1, d2, d3] }
  | _ => none }
def RoundCutsWrongFalsely : Prop := roundCutsRow.holds Tryd.pinned (OpenSpec.ofChange roundCutsWrong)

/-- 'ulplaw.ProdDot': WHATEVER THE INPUT: true; the input reads as it did. -/
def prodDotSpec : ChangeSpec := { name := "prodDot", fn := fun _ => fun
  | [d1, d2] => { results := [.lit (.bool true)], args := [d1, d2] }
  | _ => none }
def prodDotRow : OpenClaim := { program := "ytjplemfdhhkbaaadoor", sum := "00d5132ca1873419f1e6d3114852041631937c190a1f96442f72f6e507c43e37", func := "ulpwright/ulplaw.ProdDot", spec := "prodDot", unfollowed := true, recurses := true, named := ["math/bits.deBruijn32tab"], apart := false, laid := [("math/bits.deBruijn32tab", laid_math_bits_deBruijn32tab)] }
def ProdDotSaid : Prop := prodDotRow.holds Tryd.pinned (OpenSpec.ofChange prodDotSpec)

/-- ITS FALSE NEIGHBOUR: 'it returns false'. Refute it at one input. -/
def prodDotWrong : ChangeSpec := { name := "prodDot", fn := fun _ => fun
  | [d1, d2] => { results := [.lit (.bool false)], args := [d1, d2] }
  | _ => none }
def ProdDotWrongFalsely : Prop := prodDotRow.holds Tryd.pinned (OpenSpec.ofChange prodDotWrong)

/-- 'ulpkeep.ProdCommutes': WHATEVER THE INPUT: true; the input reads as it did. -/
def prodCommutesSpec : ChangeSpec := { name := "prodCommutes", fn := fun _ => fun
  | [d1, d2, d3] => { results := [.lit (.bool true)], args := [d1, d2, d3] }
  | _ => none }
def prodCommutesRow : OpenClaim := { program := "ytjplemfdhhkbaaadoor", sum := "00d5132ca1873419f1e6d3114852041631937c190a1f96442f72f6e507c43e37", func := "ulpwright/ulpkeep.ProdCommutes", spec := "prodCommutes", unfollowed := true, recurses := true, named := ["math/bits.deBruijn32tab"], apart := false, laid := [("math/bits.deBruijn32tab", laid_math_bits_deBruijn32tab)] }
def ProdCommutesSaid : Prop := prodCommutesRow.holds Tryd.pinned (OpenSpec.ofChange prodCommutesSpec)

/-- ITS FALSE NEIGHBOUR: 'it returns false'. Refute it at one input. -/
def prodCommutesWrong : ChangeSpec := { name := "prodCommutes", fn := fun _ => fun
  | [d1, d2, d3] => { results := [.lit (.bool false)], args := [d1, d2, d3] }
  | _ => none }
def ProdCommutesWrongFalsely : Prop := prodCommutesRow.holds Tryd.pinned (OpenSpec.ofChange prodCommutesWrong)

/-- 'ulpkeep.ProdFused': WHATEVER THE INPUT: true; the input reads as it did. -/
def prodFusedSpec : ChangeSpec := { name := "prodFused", fn := fun _ => fun
  | [d1, d2, d3, d4] => { results := [.lit (.bool true)], args := [d1, d2, d3, d4] }
  | _ => none }
def prodFusedRow : OpenClaim := { program := "ytjplemfdhhkbaaadoor", sum := "00d5132ca1873419f1e6d3114852041631937c190a1f96442f72f6e507c43e37", func := "ulpwright/ulpkeep.ProdFused", spec := "prodFused", unfollowed := true, recurses := true, named := ["math/bits.deBruijn32tab"], apart := false, laid := [("math/bits.deBruijn32tab", laid_math_bits_deBruijn32tab)] }
def ProdFusedSaid : Prop := prodFusedRow.holds Tryd.pinned (OpenSpec.ofChange prodFusedSpec)

/-- ITS FALSE NEIGHBOUR: 'it returns false'. Refute it at one input. -/
def prodFusedWrong : ChangeSpec := { name := "prodFused", fn := fun _ => fun
  | [d1, d2, d3, d4] => { results := [.lit (.bool false)], args := [d1, d2, d3, d4] }
  | _ => none }
def ProdFusedWrongFalsely : Prop := prodFusedRow.holds Tryd.pinned (OpenSpec.ofChange prodFusedWrong)

/-- 'ulpkeep.ProdOrder': WHATEVER THE INPUT: true; the input reads as it did. -/
def prodOrderSpec : ChangeSpec := { name := "prodOrder", fn := fun _ => fun
  | [d1, d2, d3, d4] => { results := [.lit (.bool true)], args := [d1, d2, d3, d4] }
  | _ => none }
def prodOrderRow : OpenClaim := { program := "ytjplemfdhhkbaaadoor", sum := "00d5132ca1873419f1e6d3114852041631937c190a1f96442f72f6e507c43e37", func := "ulpwright/ulpkeep.ProdOrder", spec := "prodOrder", unfollowed := true, recurses := true, named := ["math/bits.deBruijn32tab"], apart := false, laid := [("math/bits.deBruijn32tab", laid_math_bits_deBruijn32tab)] }
def ProdOrderSaid : Prop := prodOrderRow.holds Tryd.pinned (OpenSpec.ofChange prodOrderSpec)

/-- ITS FALSE NEIGHBOUR: 'it returns false'. Refute it at one input. -/
def prodOrderWrong : ChangeSpec := { name := "prodOrder", fn := fun _ => fun
  | [d1, d2, d3, d4] => { results := [.lit (.bool false)], args := [d1, d2, d3, d4] }
  | _ => none }
def ProdOrderWrongFalsely : Prop := prodOrderRow.holds Tryd.pinned (OpenSpec.ofChange prodOrderWrong)

/-- 'ulpkeep.ProdPowers': WHATEVER THE INPUT: true; the input reads as it did. -/
def prodPowersSpec : ChangeSpec := { name := "prodPowers", fn := fun _ => fun
  | [d1, d2, d3] => { results := [.lit (.bool true)], args := [d1, d2, d3] }
  | _ => none }
def prodPowersRow : OpenClaim := { program := "ytjplemfdhhkbaaadoor", sum := "00d5132ca1873419f1e6d3114852041631937c190a1f96442f72f6e507c43e37", func := "ulpwright/ulpkeep.ProdPowers", spec := "prodPowers", unfollowed := true, recurses := true, named := ["math/bits.deBruijn32tab"], apart := false, laid := [("math/bits.deBruijn32tab", laid_math_bits_deBruijn32tab)] }
def ProdPowersSaid : Prop := prodPowersRow.holds Tryd.pinned (OpenSpec.ofChange prodPowersSpec)

/-- ITS FALSE NEIGHBOUR: 'it returns false'. Refute it at one input. -/
def prodPowersWrong : ChangeSpec := { name := "prodPowers", fn := fun _ => fun
  | [d1, d2, d3] => { results := [.lit (.bool false)], args := [d1, d2, d3] }
  | _ => none }
def ProdPowersWrongFalsely : Prop := prodPowersRow.holds Tryd.pinned (OpenSpec.ofChange prodPowersWrong)

/-- 'ulpkeep.ProdDots': WHATEVER THE INPUT: true; the input reads as it did. -/
def prodDotsSpec : ChangeSpec := { name := "prodDots", fn := fun _ => fun
  | [d1, d2] => { results := [.lit (.bool true)], args := [d1, d2] }
  | _ => none }
def prodDotsRow : OpenClaim := { program := "ytjplemfdhhkbaaadoor", sum := "00d5132ca1873419f1e6d3114852041631937c190a1f96442f72f6e507c43e37", func := "ulpwright/ulpkeep.ProdDots", spec := "prodDots", unfollowed := true, recurses := true, named := ["math/bits.deBruijn32tab"], apart := false, laid := [("math/bits.deBruijn32tab", laid_math_bits_deBruijn32tab)] }
def ProdDotsSaid : Prop := prodDotsRow.holds Tryd.pinned (OpenSpec.ofChange prodDotsSpec)

/-- ITS FALSE NEIGHBOUR: 'it returns false'. Refute it at one input. -/
def prodDotsWrong : ChangeSpec := { name := "prodDots", fn := fun _ => fun
  | [d1, d2] => { results := [.lit (.bool false)], args := [d1, d2] }
  | _ => none }
def ProdDotsWrongFalsely : Prop := prodDotsRow.holds Tryd.pinned (OpenSpec.ofChange prodDotsWrong)

/-- 'ulpkeep.ProdExact': WHATEVER THE INPUT: true; the input reads as it did. -/
def prodExactSpec : ChangeSpec := { name := "prodExact", fn := fun _ => fun
  | [d1, d2, d3] => { results := [.lit (.bool true)], args := [d1, d2, d3] }
  | _ => none }
def prodExactRow : OpenClaim := { program := "ytjplemfdhhkbaaadoor", sum := "00d5132ca1873419f1e6d3114852041631937c190a1f96442f72f6e507c43e37", func := "ulpwright/ulpkeep.ProdExact", spec := "prodExact", unfollowed := true, recurses := true, named := ["math/bits.deBruijn32tab"], apart := false, laid := [("math/bits.deBruijn32tab", laid_math_bits_deBruijn32tab)] }
def ProdExactSaid : Prop := prodExactRow.holds Tryd.pinned (OpenSpec.ofChange prodExactSpec)

/-- ITS FALSE NEIGHBOUR: 'it returns false'. Refute it at one input. -/
def prodExactWrong : ChangeSpec := { name := "prodExact", fn := fun _ => fun
  | [d1, d2, d3] => { results := [.lit (.bool false)], args := [d1, d2, d3] }
  | _ => none }
def ProdExactWrongFalsely : Prop := prodExactRow.holds Tryd.pinned (OpenSpec.ofChange prodExactWrong)

/- THE SECOND FORM. 'bulk': how many values and letters a reading holds, each counted each time it is reached (what is shared counts as often as it is met; a slice's spare places count too). A statement '..UptoSaid' is the law's where the arguments, and the package variables that the reading takes, are together of bulk at most 1048576: NARROWER than '..Said'. Prove '..Said' where nothing that the law and all that it calls make is longer than what came in: it says more and counts as full. Else prove '..UptoSaid'. A law counts once. -/
mutual
def uptoBulk {H : Type} : DataW H → Nat
  | .lit (.string bytes) => bytes.length + 1
  | .lit _ => 1
  | .nil => 1
  | .ptr d => uptoBulk d + 1
  | .slice elems spare => uptoBulkAll elems + uptoBulkAll spare + 1
  | .agg parts => uptoBulkAll parts + 1
  | .iface _ d => uptoBulk d + 1
  | .map entries => uptoBulkEntries entries + 1
  | .held _ => 1
def uptoBulkAll {H : Type} : List (DataW H) → Nat
  | [] => 0
  | d :: r => uptoBulk d + uptoBulkAll r
def uptoBulkEntries {H : Type} : List (Lit × DataW H) → Nat
  | [] => 0
  | x :: r => uptoBulkEntry x + uptoBulkEntries r
def uptoBulkEntry {H : Type} : Lit × DataW H → Nat
  | (.string bytes, d) => bytes.length + uptoBulk d + 1
  | (_, d) => uptoBulk d + 1
 end
def uptoSmall : (H : Type) → List (DataW H) → Bool := fun _ ds => decide (uptoBulkAll ds ≤ 1048576)
def OpenSpec.upto (s : _root_.Go.ChangeSpec) : _root_.Go.OpenSpec := { _root_.Go.OpenSpec.ofChange s with cond := some uptoSmall }

/-- 'ulplaw.DyadMakes', WHERE WHAT IT READS IS OF BULK AT MOST 1048576: true; the input reads as it did. -/
def dyadMakesUptoRow : OpenClaim := { program := "ytjplemfdhhkbaaadoor", sum := "00d5132ca1873419f1e6d3114852041631937c190a1f96442f72f6e507c43e37", func := "ulpwright/ulplaw.DyadMakes", spec := "dyadMakes", recurses := true, named := ["math/bits.deBruijn32tab"], apart := false, laid := [("math/bits.deBruijn32tab", laid_math_bits_deBruijn32tab)], narrowed := true }
def DyadMakesUptoSaid : Prop := dyadMakesUptoRow.holds Tryd.pinned (OpenSpec.upto dyadMakesSpec)

/-- 'ulplaw.DyadSums', WHERE WHAT IT READS IS OF BULK AT MOST 1048576: true; the input reads as it did. -/
def dyadSumsUptoRow : OpenClaim := { program := "ytjplemfdhhkbaaadoor", sum := "00d5132ca1873419f1e6d3114852041631937c190a1f96442f72f6e507c43e37", func := "ulpwright/ulplaw.DyadSums", spec := "dyadSums", recurses := true, named := ["math/bits.deBruijn32tab"], apart := false, laid := [("math/bits.deBruijn32tab", laid_math_bits_deBruijn32tab)], narrowed := true }
def DyadSumsUptoSaid : Prop := dyadSumsUptoRow.holds Tryd.pinned (OpenSpec.upto dyadSumsSpec)

/-- 'ulplaw.RoundCuts', WHERE WHAT IT READS IS OF BULK AT MOST 1048576: true; the input reads as it did. -/
def roundCutsUptoRow : OpenClaim := { program := "ytjplemfdhhkbaaadoor", sum := "00d5132ca1873419f1e6d3114852041631937c190a1f96442f72f6e507c43e37", func := "ulpwright/ulplaw.RoundCuts", spec := "roundCuts", recurses := true, named := ["math/bits.deBruijn32tab"], apart := false, laid := [("math/bits.deBruijn32tab", laid_math_bits_deBruijn32tab)], narrowed := true }
def RoundCutsUptoSaid : Prop := roundCutsUptoRow.holds Tryd.pinned (OpenSpec.upto roundCutsSpec)

/-- 'ulplaw.ProdDot', WHERE WHAT IT READS IS OF BULK AT MOST 1048576: true; the input reads as it did. -/
def prodDotUptoRow : OpenClaim := { program := "ytjplemfdhhkbaaadoor", sum := "00d5132ca1873419f1e6d3114852041631937c190a1f96442f72f6e507c43e37", func := "ulpwright/ulplaw.ProdDot", spec := "prodDot", unfollowed := true, recurses := true, named := ["math/bits.deBruijn32tab"], apart := false, laid := [("math/bits.deBruijn32tab", laid_math_bits_deBruijn32tab)], narrowed := true }
def ProdDotUptoSaid : Prop := prodDotUptoRow.holds Tryd.pinned (OpenSpec.upto prodDotSpec)

/-- 'ulpkeep.ProdCommutes', WHERE WHAT IT READS IS OF BULK AT MOST 1048576: true; the input reads as it did. -/
def prodCommutesUptoRow : OpenClaim := { program := "ytjplemfdhhkbaaadoor", sum := "00d5132ca1873419f1e6d3114852041631937c190a1f96442f72f6e507c43e37", func := "ulpwright/ulpkeep.ProdCommutes", spec := "prodCommutes", unfollowed := true, recurses := true, named := ["math/bits.deBruijn32tab"], apart := false, laid := [("math/bits.deBruijn32tab", laid_math_bits_deBruijn32tab)], narrowed := true }
def ProdCommutesUptoSaid : Prop := prodCommutesUptoRow.holds Tryd.pinned (OpenSpec.upto prodCommutesSpec)

/-- 'ulpkeep.ProdFused', WHERE WHAT IT READS IS OF BULK AT MOST 1048576: true; the input reads as it did. -/
def prodFusedUptoRow : OpenClaim := { program := "ytjplemfdhhkbaaadoor", sum := "00d5132ca1873419f1e6d3114852041631937c190a1f96442f72f6e507c43e37", func := "ulpwright/ulpkeep.ProdFused", spec := "prodFused", unfollowed := true, recurses := true, named := ["math/bits.deBruijn32tab"], apart := false, laid := [("math/bits.deBruijn32tab", laid_math_bits_deBruijn32tab)], narrowed := true }
def ProdFusedUptoSaid : Prop := prodFusedUptoRow.holds Tryd.pinned (OpenSpec.upto prodFusedSpec)

/-- 'ulpkeep.ProdOrder', WHERE WHAT IT READS IS OF BULK AT MOST 1048576: true; the input reads as it did. -/
def prodOrderUptoRow : OpenClaim := { program := "ytjplemfdhhkbaaadoor", sum := "00d5132ca1873419f1e6d3114852041631937c190a1f96442f72f6e507c43e37", func := "ulpwright/ulpkeep.ProdOrder", spec := "prodOrder", unfollowed := true, recurses := true, named := ["math/bits.deBruijn32tab"], apart := false, laid := [("math/bits.deBruijn32tab", laid_math_bits_deBruijn32tab)], narrowed := true }
def ProdOrderUptoSaid : Prop := prodOrderUptoRow.holds Tryd.pinned (OpenSpec.upto prodOrderSpec)

/-- 'ulpkeep.ProdPowers', WHERE WHAT IT READS IS OF BULK AT MOST 1048576: true; the input reads as it did. -/
def prodPowersUptoRow : OpenClaim := { program := "ytjplemfdhhkbaaadoor", sum := "00d5132ca1873419f1e6d3114852041631937c190a1f96442f72f6e507c43e37", func := "ulpwright/ulpkeep.ProdPowers", spec := "prodPowers", unfollowed := true, recurses := true, named := ["math/bits.deBruijn32tab"], apart := false, laid := [("math/bits.deBruijn32tab", laid_math_bits_deBruijn32tab)], narrowed := true }
def ProdPowersUptoSaid : Prop := prodPowersUptoRow.holds Tryd.pinned (OpenSpec.upto prodPowersSpec)

/-- 'ulpkeep.ProdDots', WHERE WHAT IT READS IS OF BULK AT MOST 1048576: true; the input reads as it did. -/
def prodDotsUptoRow : OpenClaim := { program := "ytjplemfdhhkbaaadoor", sum := "00d5132ca1873419f1e6d3114852041631937c190a1f96442f72f6e507c43e37", func := "ulpwright/ulpkeep.ProdDots", spec := "prodDots", unfollowed := true, recurses := true, named := ["math/bits.deBruijn32tab"], apart := false, laid := [("math/bits.deBruijn32tab", laid_math_bits_deBruijn32tab)], narrowed := true }
def ProdDotsUptoSaid : Prop := prodDotsUptoRow.holds Tryd.pinned (OpenSpec.upto prodDotsSpec)

/-- 'ulpkeep.ProdExact', WHERE WHAT IT READS IS OF BULK AT MOST 1048576: true; the input reads as it did. -/
def prodExactUptoRow : OpenClaim := { program := "ytjplemfdhhkbaaadoor", sum := "00d5132ca1873419f1e6d3114852041631937c190a1f96442f72f6e507c43e37", func := "ulpwright/ulpkeep.ProdExact", spec := "prodExact", unfollowed := true, recurses := true, named := ["math/bits.deBruijn32tab"], apart := false, laid := [("math/bits.deBruijn32tab", laid_math_bits_deBruijn32tab)], narrowed := true }
def ProdExactUptoSaid : Prop := prodExactUptoRow.holds Tryd.pinned (OpenSpec.upto prodExactSpec)

end Rows
end Go.Proofs.YtjplemfdhhkbaaaDoor
