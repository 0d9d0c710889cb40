/-
  NARROWER THAN 'FOR EVERY INPUT', by the rows' own cells (each row's printed sentence says how): DyadMakes: laid · DyadSums: laid · RoundSays: laid · RoundCuts: laid · SumSays: laid · SumAll: laid · SumCommutes: laid · SumSterbenz: laid · SumOrder: laid · SumSmall: laid · SumOnce: laid.
  DERIVED. THE GIVEN ROWS OF THIS SEAT. 11 by the template 'for every input the law returns true; each argument reads behind the call as it read before'; 0 by the template 'total and deterministic' (their statements: YtcendlgbcnpfcaaDoorTotals.lean).
  GIVEN WITH THE SEED: the statements are not yours to turn. If you find one false, say at which input.
  Laid BY PROGRAM, IN A SANDBOX (cutbox-rows.mjs): the forced cells as the released guide's own fill.sh prints them over the translation b225c80aa1e595eb… (all of the seat's roots in one cut). By AI agents, Wed Nov 11 2026. No macro, syntax, notation, axiom, sorry.
-/
import Derived.Test.YtcendlgbcnpfcaaDoorChecked
import GoSem.Claim
import GoSem.ClaimJoined
import GoSem.ClaimMapViews
import Derived.JoinedTies
import Derived.KernelRfl
namespace Go.Proofs.YtcendlgbcnpfcaaDoor
/- THE CELL 'sum', in the pinned program and in every row, IS THE sha256 OF THE DUMP (.gsa) THAT YtcendlgbcnpfcaaDoorProg.lean LOADS. Nothing in Lean hashes anything: it is a label: what it is worth is what the hold of that sum in a sandbox is worth. -/
noncomputable def Tryd.pinned : Pinned := { name := "ytcendlgbcnpfcaadoor", sum := "b225c80aa1e595eba1cba8381a50cc6f051d4857bd719b0c5ebdde735e92149b", checked := Tryd.checked }
namespace Rows
def none {H : Type} : Left H := { results := [], args := [] }

/- WHAT THE LISTED PACKAGE-LEVEL VARIABLES READ AS WHEN THE CALL BEGINS. Each datum BY PROGRAM (the guide's laid-datum.mjs) off the statement by which the dump's own 'gosem.cut.vars' lays the variable. In a bare row this is a premise. The card (YtcendlgbcnpfcaaDoorCards.lean) ties it to the program's text. -/
def laid_math_bits_deBruijn32tab {H : Type} : DataW H := .agg [.lit (.int .u8 0), .lit (.int .u8 1), .lit (.int .u8 28), .lit (.int .u8 2), .lit (.int .u8 29), .lit (.int .u8 14), .lit (.int .u8 24), .lit (.int .u8 3), .lit (.int .u8 30), .lit (.int .u8 22), .lit (.int .u8 20), .lit (.int .u8 15), .lit (.int .u8 25), .lit (.int .u8 17), .lit (.int .u8 4), .lit (.int .u8 8), .lit (.int .u8 31), .lit (.int .u8 27), .lit (.int .u8 13), .lit (.int .u8 23), .lit (.int .u8 21), .lit (.int .u8 19), .lit (.int .u8 16), .lit (.int .u8 7), .lit (.int .u8 26), .lit (.int .u8 12), .lit (.int .u8 18), .lit (.int .u8 6), .lit (.int .u8 11), .lit (.int .u8 5), .lit (.int .u8 10), .lit (.int .u8 9)]

/-- 'ulplaw.DyadMakes': WHATEVER THE INPUT: true; the input reads as it did. -/
def dyadMakesSpec : ChangeSpec := { name := "dyadMakes", fn := fun _ => fun
  | [d1, d2, d3, d4, d5, d6] => { results := [.lit (.bool true)], args := [d1, d2, d3, d4, d5, d6] }
  | _ => none }
def dyadMakesRow : OpenClaim := { program := "ytcendlgbcnpfcaadoor", sum := "b225c80aa1e595eba1cba8381a50cc6f051d4857bd719b0c5ebdde735e92149b", func := "ulpwright/ulplaw.DyadMakes", spec := "dyadMakes", recurses := true, named := ["math/bits.deBruijn32tab"], apart := false, laid := [("math/bits.deBruijn32tab", laid_math_bits_deBruijn32tab)] }
def DyadMakesSaid : Prop := dyadMakesRow.holds Tryd.pinned (OpenSpec.ofChange dyadMakesSpec)

/-- ITS FALSE NEIGHBOUR: 'it returns false'. Refute it at one input. -/
def dyadMakesWrong : ChangeSpec := { name := "dyadMakes", fn := fun _ => fun
  | [d1, d2, d3, d4, d5, d6] => { results := [.lit (.bool false)], args := [d1, d2, d3, d4, d5, d6] }
  | _ => none }
def DyadMakesWrongFalsely : Prop := dyadMakesRow.holds Tryd.pinned (OpenSpec.ofChange dyadMakesWrong)

/-- 'ulplaw.DyadSums': WHATEVER THE INPUT: true; the input reads as it did. -/
def dyadSumsSpec : ChangeSpec := { name := "dyadSums", fn := fun _ => fun
  | [d1, d2, d3] => { results := [.lit (.bool true)], args := [d1, d2, d3] }
  | _ => none }
def dyadSumsRow : OpenClaim := { program := "ytcendlgbcnpfcaadoor", sum := "b225c80aa1e595eba1cba8381a50cc6f051d4857bd719b0c5ebdde735e92149b", func := "ulpwright/ulplaw.DyadSums", spec := "dyadSums", recurses := true, named := ["math/bits.deBruijn32tab"], apart := false, laid := [("math/bits.deBruijn32tab", laid_math_bits_deBruijn32tab)] }
def DyadSumsSaid : Prop := dyadSumsRow.holds Tryd.pinned (OpenSpec.ofChange dyadSumsSpec)

/-- ITS FALSE NEIGHBOUR: 'it returns false'. Refute it at one input. -/
def dyadSumsWrong : ChangeSpec := { name := "dyadSums", fn := fun _ => fun
  | [d1, d2, d3] => { results := [.lit (.bool false)], args := [d1, d2, d3] }
  | _ => none }
def DyadSumsWrongFalsely : Prop := dyadSumsRow.holds Tryd.pinned (OpenSpec.ofChange dyadSumsWrong)

/-- 'ulplaw.RoundSays': WHATEVER THE INPUT: true; the input reads as it did. -/
def roundSaysSpec : ChangeSpec := { name := "roundSays", fn := fun _ => fun
  | [d1, d2, d3] => { results := [.lit (.bool true)], args := [d1, d2, d3] }
  | _ => none }
def roundSaysRow : OpenClaim := { program := "ytcendlgbcnpfcaadoor", sum := "b225c80aa1e595eba1cba8381a50cc6f051d4857bd719b0c5ebdde735e92149b", func := "ulpwright/ulplaw.RoundSays", spec := "roundSays", unfollowed := true, recurses := true, named := ["math/bits.deBruijn32tab"], apart := false, laid := [("math/bits.deBruijn32tab", laid_math_bits_deBruijn32tab)] }
def RoundSaysSaid : Prop := roundSaysRow.holds Tryd.pinned (OpenSpec.ofChange roundSaysSpec)

/-- ITS FALSE NEIGHBOUR: 'it returns false'. Refute it at one input. -/
def roundSaysWrong : ChangeSpec := { name := "roundSays", fn := fun _ => fun
  | [d1, d2, d3] => { results := [.lit (.bool false)], args := [d1, d2, d3] }
  | _ => none }
def RoundSaysWrongFalsely : Prop := roundSaysRow.holds Tryd.pinned (OpenSpec.ofChange roundSaysWrong)

/-- 'ulplaw.RoundCuts': WHATEVER THE INPUT: true; the input reads as it did. -/
def roundCutsSpec : ChangeSpec := { name := "roundCuts", fn := fun _ => fun
  | [d1, d2, d3] => { results := [.lit (.bool true)], args := [d1, d2, d3] }
  | _ => none }
def roundCutsRow : OpenClaim := { program := "ytcendlgbcnpfcaadoor", sum := "b225c80aa1e595eba1cba8381a50cc6f051d4857bd719b0c5ebdde735e92149b", func := "ulpwright/ulplaw.RoundCuts", spec := "roundCuts", recurses := true, named := ["math/bits.deBruijn32tab"], apart := false, laid := [("math/bits.deBruijn32tab", laid_math_bits_deBruijn32tab)] }
def RoundCutsSaid : Prop := roundCutsRow.holds Tryd.pinned (OpenSpec.ofChange roundCutsSpec)

/-- ITS FALSE NEIGHBOUR: 'it returns false'. Refute it at one input. -/
def roundCutsWrong : ChangeSpec := { name := "roundCuts", fn := fun _ => fun
  | [d1, d2, d3] => { results := [.lit (.bool false)], args := [d1, d2, d3] }
  | _ => none }
def RoundCutsWrongFalsely : Prop := roundCutsRow.holds Tryd.pinned (OpenSpec.ofChange roundCutsWrong)

/-- 'ulplaw.SumSays': WHATEVER THE INPUT: true; the input reads as it did. -/
def sumSaysSpec : ChangeSpec := { name := "sumSays", fn := fun _ => fun
  | [d1, d2, d3] => { results := [.lit (.bool true)], args := [d1, d2, d3] }
  | _ => none }
def sumSaysRow : OpenClaim := { program := "ytcendlgbcnpfcaadoor", sum := "b225c80aa1e595eba1cba8381a50cc6f051d4857bd719b0c5ebdde735e92149b", func := "ulpwright/ulplaw.SumSays", spec := "sumSays", unfollowed := true, recurses := true, named := ["math/bits.deBruijn32tab"], apart := false, laid := [("math/bits.deBruijn32tab", laid_math_bits_deBruijn32tab)] }
def SumSaysSaid : Prop := sumSaysRow.holds Tryd.pinned (OpenSpec.ofChange sumSaysSpec)

/-- ITS FALSE NEIGHBOUR: 'it returns false'. Refute it at one input. -/
def sumSaysWrong : ChangeSpec := { name := "sumSays", fn := fun _ => fun
  | [d1, d2, d3] => { results := [.lit (.bool false)], args := [d1, d2, d3] }
  | _ => none }
def SumSaysWrongFalsely : Prop := sumSaysRow.holds Tryd.pinned (OpenSpec.ofChange sumSaysWrong)

/-- 'ulplaw.SumAll': WHATEVER THE INPUT: true; the input reads as it did. -/
def sumAllSpec : ChangeSpec := { name := "sumAll", fn := fun _ => fun
  | [d1, d2] => { results := [.lit (.bool true)], args := [d1, d2] }
  | _ => none }
def sumAllRow : OpenClaim := { program := "ytcendlgbcnpfcaadoor", sum := "b225c80aa1e595eba1cba8381a50cc6f051d4857bd719b0c5ebdde735e92149b", func := "ulpwright/ulplaw.SumAll", spec := "sumAll", unfollowed := true, recurses := true, named := ["math/bits.deBruijn32tab"], apart := false, laid := [("math/bits.deBruijn32tab", laid_math_bits_deBruijn32tab)] }
def SumAllSaid : Prop := sumAllRow.holds Tryd.pinned (OpenSpec.ofChange sumAllSpec)

/-- ITS FALSE NEIGHBOUR: 'it returns false'. Refute it at one input. -/
def sumAllWrong : ChangeSpec := { name := "sumAll", fn := fun _ => fun
  | [d1, d2] => { results := [.lit (.bool false)], args := [d1, d2] }
  | _ => none }
def SumAllWrongFalsely : Prop := sumAllRow.holds Tryd.pinned (OpenSpec.ofChange sumAllWrong)

/-- 'ulpkeep.SumCommutes': WHATEVER THE INPUT: true; the input reads as it did. -/
def sumCommutesSpec : ChangeSpec := { name := "sumCommutes", fn := fun _ => fun
  | [d1, d2, d3] => { results := [.lit (.bool true)], args := [d1, d2, d3] }
  | _ => none }
def sumCommutesRow : OpenClaim := { program := "ytcendlgbcnpfcaadoor", sum := "b225c80aa1e595eba1cba8381a50cc6f051d4857bd719b0c5ebdde735e92149b", func := "ulpwright/ulpkeep.SumCommutes", spec := "sumCommutes", unfollowed := true, recurses := true, named := ["math/bits.deBruijn32tab"], apart := false, laid := [("math/bits.deBruijn32tab", laid_math_bits_deBruijn32tab)] }
def SumCommutesSaid : Prop := sumCommutesRow.holds Tryd.pinned (OpenSpec.ofChange sumCommutesSpec)

/-- ITS FALSE NEIGHBOUR: 'it returns false'. Refute it at one input. -/
def sumCommutesWrong : ChangeSpec := { name := "sumCommutes", fn := fun _ => fun
  | [d1, d2, d3] => { results := [.lit (.bool false)], args := [d1, d2, d3] }
  | _ => none }
def SumCommutesWrongFalsely : Prop := sumCommutesRow.holds Tryd.pinned (OpenSpec.ofChange sumCommutesWrong)

/-- 'ulpkeep.SumSterbenz': WHATEVER THE INPUT: true; the input reads as it did. -/
def sumSterbenzSpec : ChangeSpec := { name := "sumSterbenz", fn := fun _ => fun
  | [d1, d2, d3] => { results := [.lit (.bool true)], args := [d1, d2, d3] }
  | _ => none }
def sumSterbenzRow : OpenClaim := { program := "ytcendlgbcnpfcaadoor", sum := "b225c80aa1e595eba1cba8381a50cc6f051d4857bd719b0c5ebdde735e92149b", func := "ulpwright/ulpkeep.SumSterbenz", spec := "sumSterbenz", unfollowed := true, recurses := true, named := ["math/bits.deBruijn32tab"], apart := false, laid := [("math/bits.deBruijn32tab", laid_math_bits_deBruijn32tab)] }
def SumSterbenzSaid : Prop := sumSterbenzRow.holds Tryd.pinned (OpenSpec.ofChange sumSterbenzSpec)

/-- ITS FALSE NEIGHBOUR: 'it returns false'. Refute it at one input. -/
def sumSterbenzWrong : ChangeSpec := { name := "sumSterbenz", fn := fun _ => fun
  | [d1, d2, d3] => { results := [.lit (.bool false)], args := [d1, d2, d3] }
  | _ => none }
def SumSterbenzWrongFalsely : Prop := sumSterbenzRow.holds Tryd.pinned (OpenSpec.ofChange sumSterbenzWrong)

/-- 'ulpkeep.SumOrder': WHATEVER THE INPUT: true; the input reads as it did. -/
def sumOrderSpec : ChangeSpec := { name := "sumOrder", fn := fun _ => fun
  | [d1, d2, d3, d4] => { results := [.lit (.bool true)], args := [d1, d2, d3, d4] }
  | _ => none }
def sumOrderRow : OpenClaim := { program := "ytcendlgbcnpfcaadoor", sum := "b225c80aa1e595eba1cba8381a50cc6f051d4857bd719b0c5ebdde735e92149b", func := "ulpwright/ulpkeep.SumOrder", spec := "sumOrder", unfollowed := true, recurses := true, named := ["math/bits.deBruijn32tab"], apart := false, laid := [("math/bits.deBruijn32tab", laid_math_bits_deBruijn32tab)] }
def SumOrderSaid : Prop := sumOrderRow.holds Tryd.pinned (OpenSpec.ofChange sumOrderSpec)

/-- ITS FALSE NEIGHBOUR: 'it returns false'. Refute it at one input. -/
def sumOrderWrong : ChangeSpec := { name := "sumOrder", fn := fun _ => fun
  | [d1, d2, d3, d4] => { results := [.lit (.bool false)], args := [d1, d2, d3, d4] }
  | _ => none }
def SumOrderWrongFalsely : Prop := sumOrderRow.holds Tryd.pinned (OpenSpec.ofChange sumOrderWrong)

/-- 'ulpkeep.SumSmall': WHATEVER THE INPUT: true; the input reads as it did. -/
def sumSmallSpec : ChangeSpec := { name := "sumSmall", fn := fun _ => fun
  | [d1, d2, d3] => { results := [.lit (.bool true)], args := [d1, d2, d3] }
  | _ => none }
def sumSmallRow : OpenClaim := { program := "ytcendlgbcnpfcaadoor", sum := "b225c80aa1e595eba1cba8381a50cc6f051d4857bd719b0c5ebdde735e92149b", func := "ulpwright/ulpkeep.SumSmall", spec := "sumSmall", unfollowed := true, recurses := true, named := ["math/bits.deBruijn32tab"], apart := false, laid := [("math/bits.deBruijn32tab", laid_math_bits_deBruijn32tab)] }
def SumSmallSaid : Prop := sumSmallRow.holds Tryd.pinned (OpenSpec.ofChange sumSmallSpec)

/-- ITS FALSE NEIGHBOUR: 'it returns false'. Refute it at one input. -/
def sumSmallWrong : ChangeSpec := { name := "sumSmall", fn := fun _ => fun
  | [d1, d2, d3] => { results := [.lit (.bool false)], args := [d1, d2, d3] }
  | _ => none }
def SumSmallWrongFalsely : Prop := sumSmallRow.holds Tryd.pinned (OpenSpec.ofChange sumSmallWrong)

/-- 'ulpkeep.SumOnce': WHATEVER THE INPUT: true; the input reads as it did. -/
def sumOnceSpec : ChangeSpec := { name := "sumOnce", fn := fun _ => fun
  | [d1, d2, d3] => { results := [.lit (.bool true)], args := [d1, d2, d3] }
  | _ => none }
def sumOnceRow : OpenClaim := { program := "ytcendlgbcnpfcaadoor", sum := "b225c80aa1e595eba1cba8381a50cc6f051d4857bd719b0c5ebdde735e92149b", func := "ulpwright/ulpkeep.SumOnce", spec := "sumOnce", unfollowed := true, recurses := true, named := ["math/bits.deBruijn32tab"], apart := false, laid := [("math/bits.deBruijn32tab", laid_math_bits_deBruijn32tab)] }
def SumOnceSaid : Prop := sumOnceRow.holds Tryd.pinned (OpenSpec.ofChange sumOnceSpec)

/-- ITS FALSE NEIGHBOUR: 'it returns false'. Refute it at one input. -/
def sumOnceWrong : ChangeSpec := { name := "sumOnce", fn := fun _ => fun
  | [d1, d2, d3] => { results := [.lit (.bool false)], args := [d1, d2, d3] }
  | _ => none }
def SumOnceWrongFalsely : Prop := sumOnceRow.holds Tryd.pinned (OpenSpec.ofChange sumOnceWrong)

/- THE SECOND FORM. 'bulk': how many values and letters a reading holds, each counted each time it is reached (what is shared counts as often as it is met; a slice's spare places count too). A statement '..UptoSaid' is the law's where the arguments, and the package variables that the reading takes, are together of bulk at most 1048576: NARROWER than '..Said'. Prove '..Said' where nothing that the law and all that it calls make is longer than what came in: it says more and counts as full. Else prove '..UptoSaid'. A law counts once. -/
mutual
def uptoBulk {H : Type} : DataW H → Nat
  | .lit (.string bytes) => bytes.length + 1
  | .lit _ => 1
  | .nil => 1
  | .ptr d => uptoBulk d + 1
  | .slice elems spare => uptoBulkAll elems + uptoBulkAll spare + 1
  | .agg parts => uptoBulkAll parts + 1
  | .iface _ d => uptoBulk d + 1
  | .map entries => uptoBulkEntries entries + 1
  | .held _ => 1
def uptoBulkAll {H : Type} : List (DataW H) → Nat
  | [] => 0
  | d :: r => uptoBulk d + uptoBulkAll r
def uptoBulkEntries {H : Type} : List (Lit × DataW H) → Nat
  | [] => 0
  | x :: r => uptoBulkEntry x + uptoBulkEntries r
def uptoBulkEntry {H : Type} : Lit × DataW H → Nat
  | (.string bytes, d) => bytes.length + uptoBulk d + 1
  | (_, d) => uptoBulk d + 1
 end
def uptoSmall : (H : Type) → List (DataW H) → Bool := fun _ ds => decide (uptoBulkAll ds ≤ 1048576)
def OpenSpec.upto (s : _root_.Go.ChangeSpec) : _root_.Go.OpenSpec := { _root_.Go.OpenSpec.ofChange s with cond := some uptoSmall }

/-- 'ulplaw.DyadMakes', WHERE WHAT IT READS IS OF BULK AT MOST 1048576: true; the input reads as it did. -/
def dyadMakesUptoRow : OpenClaim := { program := "ytcendlgbcnpfcaadoor", sum := "b225c80aa1e595eba1cba8381a50cc6f051d4857bd719b0c5ebdde735e92149b", func := "ulpwright/ulplaw.DyadMakes", spec := "dyadMakes", recurses := true, named := ["math/bits.deBruijn32tab"], apart := false, laid := [("math/bits.deBruijn32tab", laid_math_bits_deBruijn32tab)], narrowed := true }
def DyadMakesUptoSaid : Prop := dyadMakesUptoRow.holds Tryd.pinned (OpenSpec.upto dyadMakesSpec)

/-- 'ulplaw.DyadSums', WHERE WHAT IT READS IS OF BULK AT MOST 1048576: true; the input reads as it did. -/
def dyadSumsUptoRow : OpenClaim := { program := "ytcendlgbcnpfcaadoor", sum := "b225c80aa1e595eba1cba8381a50cc6f051d4857bd719b0c5ebdde735e92149b", func := "ulpwright/ulplaw.DyadSums", spec := "dyadSums", recurses := true, named := ["math/bits.deBruijn32tab"], apart := false, laid := [("math/bits.deBruijn32tab", laid_math_bits_deBruijn32tab)], narrowed := true }
def DyadSumsUptoSaid : Prop := dyadSumsUptoRow.holds Tryd.pinned (OpenSpec.upto dyadSumsSpec)

/-- 'ulplaw.RoundSays', WHERE WHAT IT READS IS OF BULK AT MOST 1048576: true; the input reads as it did. -/
def roundSaysUptoRow : OpenClaim := { program := "ytcendlgbcnpfcaadoor", sum := "b225c80aa1e595eba1cba8381a50cc6f051d4857bd719b0c5ebdde735e92149b", func := "ulpwright/ulplaw.RoundSays", spec := "roundSays", unfollowed := true, recurses := true, named := ["math/bits.deBruijn32tab"], apart := false, laid := [("math/bits.deBruijn32tab", laid_math_bits_deBruijn32tab)], narrowed := true }
def RoundSaysUptoSaid : Prop := roundSaysUptoRow.holds Tryd.pinned (OpenSpec.upto roundSaysSpec)

/-- 'ulplaw.RoundCuts', WHERE WHAT IT READS IS OF BULK AT MOST 1048576: true; the input reads as it did. -/
def roundCutsUptoRow : OpenClaim := { program := "ytcendlgbcnpfcaadoor", sum := "b225c80aa1e595eba1cba8381a50cc6f051d4857bd719b0c5ebdde735e92149b", func := "ulpwright/ulplaw.RoundCuts", spec := "roundCuts", recurses := true, named := ["math/bits.deBruijn32tab"], apart := false, laid := [("math/bits.deBruijn32tab", laid_math_bits_deBruijn32tab)], narrowed := true }
def RoundCutsUptoSaid : Prop := roundCutsUptoRow.holds Tryd.pinned (OpenSpec.upto roundCutsSpec)

/-- 'ulplaw.SumSays', WHERE WHAT IT READS IS OF BULK AT MOST 1048576: true; the input reads as it did. -/
def sumSaysUptoRow : OpenClaim := { program := "ytcendlgbcnpfcaadoor", sum := "b225c80aa1e595eba1cba8381a50cc6f051d4857bd719b0c5ebdde735e92149b", func := "ulpwright/ulplaw.SumSays", spec := "sumSays", unfollowed := true, recurses := true, named := ["math/bits.deBruijn32tab"], apart := false, laid := [("math/bits.deBruijn32tab", laid_math_bits_deBruijn32tab)], narrowed := true }
def SumSaysUptoSaid : Prop := sumSaysUptoRow.holds Tryd.pinned (OpenSpec.upto sumSaysSpec)

/-- 'ulplaw.SumAll', WHERE WHAT IT READS IS OF BULK AT MOST 1048576: true; the input reads as it did. -/
def sumAllUptoRow : OpenClaim := { program := "ytcendlgbcnpfcaadoor", sum := "b225c80aa1e595eba1cba8381a50cc6f051d4857bd719b0c5ebdde735e92149b", func := "ulpwright/ulplaw.SumAll", spec := "sumAll", unfollowed := true, recurses := true, named := ["math/bits.deBruijn32tab"], apart := false, laid := [("math/bits.deBruijn32tab", laid_math_bits_deBruijn32tab)], narrowed := true }
def SumAllUptoSaid : Prop := sumAllUptoRow.holds Tryd.pinned (OpenSpec.upto sumAllSpec)

/-- 'ulpkeep.SumCommutes', WHERE WHAT IT READS IS OF BULK AT MOST 1048576: true; the input reads as it did. -/
def sumCommutesUptoRow : OpenClaim := { program := "ytcendlgbcnpfcaadoor", sum := "b225c80aa1e595eba1cba8381a50cc6f051d4857bd719b0c5ebdde735e92149b", func := "ulpwright/ulpkeep.SumCommutes", spec := "sumCommutes", unfollowed := true, recurses := true, named := ["math/bits.deBruijn32tab"], apart := false, laid := [("math/bits.deBruijn32tab", laid_math_bits_deBruijn32tab)], narrowed := true }
def SumCommutesUptoSaid : Prop := sumCommutesUptoRow.holds Tryd.pinned (OpenSpec.upto sumCommutesSpec)

/-- 'ulpkeep.SumSterbenz', WHERE WHAT IT READS IS OF BULK AT MOST 1048576: true; the input reads as it did. -/
def sumSterbenzUptoRow : OpenClaim := { program := "ytcendlgbcnpfcaadoor", sum := "b225c80aa1e595eba1cba8381a50cc6f051d4857bd719b0c5ebdde735e92149b", func := "ulpwright/ulpkeep.SumSterbenz", spec := "sumSterbenz", unfollowed := true, recurses := true, named := ["math/bits.deBruijn32tab"], apart := false, laid := [("math/bits.deBruijn32tab", laid_math_bits_deBruijn32tab)], narrowed := true }
def SumSterbenzUptoSaid : Prop := sumSterbenzUptoRow.holds Tryd.pinned (OpenSpec.upto sumSterbenzSpec)

/-- 'ulpkeep.SumOrder', WHERE WHAT IT READS IS OF BULK AT MOST 1048576: true; the input reads as it did. -/
def sumOrderUptoRow : OpenClaim := { program := "ytcendlgbcnpfcaadoor", sum := "b225c80aa1e595eba1cba8381a50cc6f051d4857bd719b0c5ebdde735e92149b", func := "ulpwright/ulpkeep.SumOrder", spec := "sumOrder", unfollowed := true, recurses := true, named := ["math/bits.deBruijn32tab"], apart := false, laid := [("math/bits.deBruijn32tab", laid_math_bits_deBruijn32tab)], narrowed := true }
def SumOrderUptoSaid : Prop := sumOrderUptoRow.holds Tryd.pinned (OpenSpec.upto sumOrderSpec)

/-- 'ulpkeep.SumSmall', WHERE WHAT IT READS IS OF BULK AT MOST 1048576: true; the input reads as it did. -/
def sumSmallUptoRow : OpenClaim := { program := "ytcendlgbcnpfcaadoor", sum := "b225c80aa1e595eba1cba8381a50cc6f051d4857bd719b0c5ebdde735e92149b", func := "ulpwright/ulpkeep.SumSmall", spec := "sumSmall", unfollowed := true, recurses := true, named := ["math/bits.deBruijn32tab"], apart := false, laid := [("math/bits.deBruijn32tab", laid_math_bits_deBruijn32tab)], narrowed := true }
def SumSmallUptoSaid : Prop := sumSmallUptoRow.holds Tryd.pinned (OpenSpec.upto sumSmallSpec)

/-- 'ulpkeep.SumOnce', WHERE WHAT IT READS IS OF BULK AT MOST 1048576: true; the input reads as it did. -/
def sumOnceUptoRow : OpenClaim := { program := "ytcendlgbcnpfcaadoor", sum := "b225c80aa1e595eba1cba8381a50cc6f051d4857bd719b0c5ebdde735e92149b", func := "ulpwright/ulpkeep.SumOnce", spec := "sumOnce", unfollowed := true, recurses := true, named := ["math/bits.deBruijn32tab"], apart := false, laid := [("math/bits.deBruijn32tab", laid_math_bits_deBruijn32tab)], narrowed := true }
def SumOnceUptoSaid : Prop := sumOnceUptoRow.holds Tryd.pinned (OpenSpec.upto sumOnceSpec)

end Rows
end Go.Proofs.YtcendlgbcnpfcaaDoor
