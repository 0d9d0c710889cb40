/-
  NARROWER THAN 'FOR EVERY INPUT', by the rows' own cells (each row's printed sentence says how): QuotRem: laid · QuotSelf: laid · QuotBack: laid · QuotRoot: laid · QuotNever: laid · QuotRest: laid.
  DERIVED. THE GIVEN ROWS OF THIS SEAT. 6 by the template 'for every input the law returns true; each argument reads behind the call as it read before'; 0 by the template 'total and deterministic' (their statements: YtpmjeipdldnnbaaDoorTotals.lean).
  GIVEN WITH THE SEED: the statements are not yours to turn. If you find one false, say at which input.
  Laid BY PROGRAM, IN A SANDBOX (cutbox-rows.mjs): the forced cells as the released guide's own fill.sh prints them over the translation f484c5493c035d55… (all of the seat's roots in one cut). By AI agents, Wed Nov 11 2026. No macro, syntax, notation, axiom, sorry.
-/
import Derived.Test.YtpmjeipdldnnbaaDoorChecked
import GoSem.Claim
import GoSem.ClaimJoined
import GoSem.ClaimMapViews
import Derived.JoinedTies
import Derived.KernelRfl
namespace Go.Proofs.YtpmjeipdldnnbaaDoor
/- THE CELL 'sum', in the pinned program and in every row, IS THE sha256 OF THE DUMP (.gsa) THAT YtpmjeipdldnnbaaDoorProg.lean LOADS. Nothing in Lean hashes anything: it is a label: what it is worth is what the hold of that sum in a sandbox is worth. -/
noncomputable def Tryd.pinned : Pinned := { name := "ytpmjeipdldnnbaadoor", sum := "f484c5493c035d554ee3ac6385dd638cc8d0f7f6d6c7bc0dff1d9175e8b47099", checked := Tryd.checked }
namespace Rows
def none {H : Type} : Left H := { results := [], args := [] }

/- WHAT THE LISTED PACKAGE-LEVEL VARIABLES READ AS WHEN THE CALL BEGINS. Each datum BY PROGRAM (the guide's laid-datum.mjs) off the statement by which the dump's own 'gosem.cut.vars' lays the variable. In a bare row this is a premise. The card (YtpmjeipdldnnbaaDoorCards.lean) ties it to the program's text. -/
def laid_math_bits_deBruijn32tab {H : Type} : DataW H := .agg [.lit (.int .u8 0), .lit (.int .u8 1), .lit (.int .u8 28), .lit (.int .u8 2), .lit (.int .u8 29), .lit (.int .u8 14), .lit (.int .u8 24), .lit (.int .u8 3), .lit (.int .u8 30), .lit (.int .u8 22), .lit (.int .u8 20), .lit (.int .u8 15), .lit (.int .u8 25), .lit (.int .u8 17), .lit (.int .u8 4), .lit (.int .u8 8), .lit (.int .u8 31), .lit (.int .u8 27), .lit (.int .u8 13), .lit (.int .u8 23), .lit (.int .u8 21), .lit (.int .u8 19), .lit (.int .u8 16), .lit (.int .u8 7), .lit (.int .u8 26), .lit (.int .u8 12), .lit (.int .u8 18), .lit (.int .u8 6), .lit (.int .u8 11), .lit (.int .u8 5), .lit (.int .u8 10), .lit (.int .u8 9)]

/-- 'ulplaw.QuotRem': WHATEVER THE INPUT: true; the input reads as it did. -/
def quotRemSpec : ChangeSpec := { name := "quotRem", fn := fun _ => fun
  | [d1, d2] => { results := [.lit (.bool true)], args := [d1, d2] }
  | _ => none }
def quotRemRow : OpenClaim := { program := "ytpmjeipdldnnbaadoor", sum := "f484c5493c035d554ee3ac6385dd638cc8d0f7f6d6c7bc0dff1d9175e8b47099", func := "ulpwright/ulplaw.QuotRem", spec := "quotRem", unfollowed := true, recurses := true, named := ["math/bits.deBruijn32tab"], apart := false, laid := [("math/bits.deBruijn32tab", laid_math_bits_deBruijn32tab)] }
def QuotRemSaid : Prop := quotRemRow.holds Tryd.pinned (OpenSpec.ofChange quotRemSpec)

/-- ITS FALSE NEIGHBOUR: 'it returns false'. Refute it at one input. -/
def quotRemWrong : ChangeSpec := { name := "quotRem", fn := fun _ => fun
  | [d1, d2] => { results := [.lit (.bool false)], args := [d1, d2] }
  | _ => none }
def QuotRemWrongFalsely : Prop := quotRemRow.holds Tryd.pinned (OpenSpec.ofChange quotRemWrong)

/-- 'ulpkeep.QuotSelf': WHATEVER THE INPUT: true; the input reads as it did. -/
def quotSelfSpec : ChangeSpec := { name := "quotSelf", fn := fun _ => fun
  | [d1, d2, d3] => { results := [.lit (.bool true)], args := [d1, d2, d3] }
  | _ => none }
def quotSelfRow : OpenClaim := { program := "ytpmjeipdldnnbaadoor", sum := "f484c5493c035d554ee3ac6385dd638cc8d0f7f6d6c7bc0dff1d9175e8b47099", func := "ulpwright/ulpkeep.QuotSelf", spec := "quotSelf", named := ["math/bits.deBruijn32tab"], apart := false, laid := [("math/bits.deBruijn32tab", laid_math_bits_deBruijn32tab)] }
def QuotSelfSaid : Prop := quotSelfRow.holds Tryd.pinned (OpenSpec.ofChange quotSelfSpec)

/-- ITS FALSE NEIGHBOUR: 'it returns false'. Refute it at one input. -/
def quotSelfWrong : ChangeSpec := { name := "quotSelf", fn := fun _ => fun
  | [d1, d2, d3] => { results := [.lit (.bool false)], args := [d1, d2, d3] }
  | _ => none }
def QuotSelfWrongFalsely : Prop := quotSelfRow.holds Tryd.pinned (OpenSpec.ofChange quotSelfWrong)

/-- 'ulpkeep.QuotBack': WHATEVER THE INPUT: true; the input reads as it did. -/
def quotBackSpec : ChangeSpec := { name := "quotBack", fn := fun _ => fun
  | [d1, d2, d3] => { results := [.lit (.bool true)], args := [d1, d2, d3] }
  | _ => none }
def quotBackRow : OpenClaim := { program := "ytpmjeipdldnnbaadoor", sum := "f484c5493c035d554ee3ac6385dd638cc8d0f7f6d6c7bc0dff1d9175e8b47099", func := "ulpwright/ulpkeep.QuotBack", spec := "quotBack", unfollowed := true, recurses := true, named := ["math/bits.deBruijn32tab"], apart := false, laid := [("math/bits.deBruijn32tab", laid_math_bits_deBruijn32tab)] }
def QuotBackSaid : Prop := quotBackRow.holds Tryd.pinned (OpenSpec.ofChange quotBackSpec)

/-- ITS FALSE NEIGHBOUR: 'it returns false'. Refute it at one input. -/
def quotBackWrong : ChangeSpec := { name := "quotBack", fn := fun _ => fun
  | [d1, d2, d3] => { results := [.lit (.bool false)], args := [d1, d2, d3] }
  | _ => none }
def QuotBackWrongFalsely : Prop := quotBackRow.holds Tryd.pinned (OpenSpec.ofChange quotBackWrong)

/-- 'ulpkeep.QuotRoot': WHATEVER THE INPUT: true; the input reads as it did. -/
def quotRootSpec : ChangeSpec := { name := "quotRoot", fn := fun _ => fun
  | [d1, d2, d3] => { results := [.lit (.bool true)], args := [d1, d2, d3] }
  | _ => none }
def quotRootRow : OpenClaim := { program := "ytpmjeipdldnnbaadoor", sum := "f484c5493c035d554ee3ac6385dd638cc8d0f7f6d6c7bc0dff1d9175e8b47099", func := "ulpwright/ulpkeep.QuotRoot", spec := "quotRoot", named := ["math/bits.deBruijn32tab"], apart := false, laid := [("math/bits.deBruijn32tab", laid_math_bits_deBruijn32tab)] }
def QuotRootSaid : Prop := quotRootRow.holds Tryd.pinned (OpenSpec.ofChange quotRootSpec)

/-- ITS FALSE NEIGHBOUR: 'it returns false'. Refute it at one input. -/
def quotRootWrong : ChangeSpec := { name := "quotRoot", fn := fun _ => fun
  | [d1, d2, d3] => { results := [.lit (.bool false)], args := [d1, d2, d3] }
  | _ => none }
def QuotRootWrongFalsely : Prop := quotRootRow.holds Tryd.pinned (OpenSpec.ofChange quotRootWrong)

/-- 'ulpkeep.QuotNever': WHATEVER THE INPUT: true; the input reads as it did. -/
def quotNeverSpec : ChangeSpec := { name := "quotNever", fn := fun _ => fun
  | [d1, d2] => { results := [.lit (.bool true)], args := [d1, d2] }
  | _ => none }
def quotNeverRow : OpenClaim := { program := "ytpmjeipdldnnbaadoor", sum := "f484c5493c035d554ee3ac6385dd638cc8d0f7f6d6c7bc0dff1d9175e8b47099", func := "ulpwright/ulpkeep.QuotNever", spec := "quotNever", named := ["math/bits.deBruijn32tab"], apart := false, laid := [("math/bits.deBruijn32tab", laid_math_bits_deBruijn32tab)] }
def QuotNeverSaid : Prop := quotNeverRow.holds Tryd.pinned (OpenSpec.ofChange quotNeverSpec)

/-- ITS FALSE NEIGHBOUR: 'it returns false'. Refute it at one input. -/
def quotNeverWrong : ChangeSpec := { name := "quotNever", fn := fun _ => fun
  | [d1, d2] => { results := [.lit (.bool false)], args := [d1, d2] }
  | _ => none }
def QuotNeverWrongFalsely : Prop := quotNeverRow.holds Tryd.pinned (OpenSpec.ofChange quotNeverWrong)

/-- 'ulpkeep.QuotRest': WHATEVER THE INPUT: true; the input reads as it did. -/
def quotRestSpec : ChangeSpec := { name := "quotRest", fn := fun _ => fun
  | [d1, d2] => { results := [.lit (.bool true)], args := [d1, d2] }
  | _ => none }
def quotRestRow : OpenClaim := { program := "ytpmjeipdldnnbaadoor", sum := "f484c5493c035d554ee3ac6385dd638cc8d0f7f6d6c7bc0dff1d9175e8b47099", func := "ulpwright/ulpkeep.QuotRest", spec := "quotRest", named := ["math/bits.deBruijn32tab"], apart := false, laid := [("math/bits.deBruijn32tab", laid_math_bits_deBruijn32tab)] }
def QuotRestSaid : Prop := quotRestRow.holds Tryd.pinned (OpenSpec.ofChange quotRestSpec)

/-- ITS FALSE NEIGHBOUR: 'it returns false'. Refute it at one input. -/
def quotRestWrong : ChangeSpec := { name := "quotRest", fn := fun _ => fun
  | [d1, d2] => { results := [.lit (.bool false)], args := [d1, d2] }
  | _ => none }
def QuotRestWrongFalsely : Prop := quotRestRow.holds Tryd.pinned (OpenSpec.ofChange quotRestWrong)

/- THE SECOND FORM. 'bulk': how many values and letters a reading holds, each counted each time it is reached (what is shared counts as often as it is met; a slice's spare places count too). A statement '..UptoSaid' is the law's where the arguments, and the package variables that the reading takes, are together of bulk at most 1048576: NARROWER than '..Said'. Prove '..Said' where nothing that the law and all that it calls make is longer than what came in: it says more and counts as full. Else prove '..UptoSaid'. A law counts once. -/
mutual
def uptoBulk {H : Type} : DataW H → Nat
  | .lit (.string bytes) => bytes.length + 1
  | .lit _ => 1
  | .nil => 1
  | .ptr d => uptoBulk d + 1
  | .slice elems spare => uptoBulkAll elems + uptoBulkAll spare + 1
  | .agg parts => uptoBulkAll parts + 1
  | .iface _ d => uptoBulk d + 1
  | .map entries => uptoBulkEntries entries + 1
  | .held _ => 1
def uptoBulkAll {H : Type} : List (DataW H) → Nat
  | [] => 0
  | d :: r => uptoBulk d + uptoBulkAll r
def uptoBulkEntries {H : Type} : List (Lit × DataW H) → Nat
  | [] => 0
  | x :: r => uptoBulkEntry x + uptoBulkEntries r
def uptoBulkEntry {H : Type} : Lit × DataW H → Nat
  | (.string bytes, d) => bytes.length + uptoBulk d + 1
  | (_, d) => uptoBulk d + 1
 end
def uptoSmall : (H : Type) → List (DataW H) → Bool := fun _ ds => decide (uptoBulkAll ds ≤ 1048576)
def OpenSpec.upto (s : _root_.Go.ChangeSpec) : _root_.Go.OpenSpec := { _root_.Go.OpenSpec.ofChange s with cond := some uptoSmall }

/-- 'ulplaw.QuotRem', WHERE WHAT IT READS IS OF BULK AT MOST 1048576: true; the input reads as it did. -/
def quotRemUptoRow : OpenClaim := { program := "ytpmjeipdldnnbaadoor", sum := "f484c5493c035d554ee3ac6385dd638cc8d0f7f6d6c7bc0dff1d9175e8b47099", func := "ulpwright/ulplaw.QuotRem", spec := "quotRem", unfollowed := true, recurses := true, named := ["math/bits.deBruijn32tab"], apart := false, laid := [("math/bits.deBruijn32tab", laid_math_bits_deBruijn32tab)], narrowed := true }
def QuotRemUptoSaid : Prop := quotRemUptoRow.holds Tryd.pinned (OpenSpec.upto quotRemSpec)

/-- 'ulpkeep.QuotSelf', WHERE WHAT IT READS IS OF BULK AT MOST 1048576: true; the input reads as it did. -/
def quotSelfUptoRow : OpenClaim := { program := "ytpmjeipdldnnbaadoor", sum := "f484c5493c035d554ee3ac6385dd638cc8d0f7f6d6c7bc0dff1d9175e8b47099", func := "ulpwright/ulpkeep.QuotSelf", spec := "quotSelf", named := ["math/bits.deBruijn32tab"], apart := false, laid := [("math/bits.deBruijn32tab", laid_math_bits_deBruijn32tab)], narrowed := true }
def QuotSelfUptoSaid : Prop := quotSelfUptoRow.holds Tryd.pinned (OpenSpec.upto quotSelfSpec)

/-- 'ulpkeep.QuotBack', WHERE WHAT IT READS IS OF BULK AT MOST 1048576: true; the input reads as it did. -/
def quotBackUptoRow : OpenClaim := { program := "ytpmjeipdldnnbaadoor", sum := "f484c5493c035d554ee3ac6385dd638cc8d0f7f6d6c7bc0dff1d9175e8b47099", func := "ulpwright/ulpkeep.QuotBack", spec := "quotBack", unfollowed := true, recurses := true, named := ["math/bits.deBruijn32tab"], apart := false, laid := [("math/bits.deBruijn32tab", laid_math_bits_deBruijn32tab)], narrowed := true }
def QuotBackUptoSaid : Prop := quotBackUptoRow.holds Tryd.pinned (OpenSpec.upto quotBackSpec)

/-- 'ulpkeep.QuotRoot', WHERE WHAT IT READS IS OF BULK AT MOST 1048576: true; the input reads as it did. -/
def quotRootUptoRow : OpenClaim := { program := "ytpmjeipdldnnbaadoor", sum := "f484c5493c035d554ee3ac6385dd638cc8d0f7f6d6c7bc0dff1d9175e8b47099", func := "ulpwright/ulpkeep.QuotRoot", spec := "quotRoot", named := ["math/bits.deBruijn32tab"], apart := false, laid := [("math/bits.deBruijn32tab", laid_math_bits_deBruijn32tab)], narrowed := true }
def QuotRootUptoSaid : Prop := quotRootUptoRow.holds Tryd.pinned (OpenSpec.upto quotRootSpec)

/-- 'ulpkeep.QuotNever', WHERE WHAT IT READS IS OF BULK AT MOST 1048576: true; the input reads as it did. -/
def quotNeverUptoRow : OpenClaim := { program := "ytpmjeipdldnnbaadoor", sum := "f484c5493c035d554ee3ac6385dd638cc8d0f7f6d6c7bc0dff1d9175e8b47099", func := "ulpwright/ulpkeep.QuotNever", spec := "quotNever", named := ["math/bits.deBruijn32tab"], apart := false, laid := [("math/bits.deBruijn32tab", laid_math_bits_deBruijn32tab)], narrowed := true }
def QuotNeverUptoSaid : Prop := quotNeverUptoRow.holds Tryd.pinned (OpenSpec.upto quotNeverSpec)

/-- 'ulpkeep.QuotRest', WHERE WHAT IT READS IS OF BULK AT MOST 1048576: true; the input reads as it did. -/
def quotRestUptoRow : OpenClaim := { program := "ytpmjeipdldnnbaadoor", sum := "f484c5493c035d554ee3ac6385dd638cc8d0f7f6d6c7bc0dff1d9175e8b47099", func := "ulpwright/ulpkeep.QuotRest", spec := "quotRest", named := ["math/bits.deBruijn32tab"], apart := false, laid := [("math/bits.deBruijn32tab", laid_math_bits_deBruijn32tab)], narrowed := true }
def QuotRestUptoSaid : Prop := quotRestUptoRow.holds Tryd.pinned (OpenSpec.upto quotRestSpec)

end Rows
end Go.Proofs.YtpmjeipdldnnbaaDoor
