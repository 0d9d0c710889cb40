/-
  A Dyad that came in, opened.
-/
import Derived.Test.YtjplemfdhhkbaaaDoorE7
import Derived.ProofKit
import Derived.Deep.Strs
namespace Go.Proofs.YtjplemfdhhkbaaaDoor
set_option linter.unusedVariables false
set_option linter.unusedSimpArgs false
open Go.ChangeShapes Go.WideShapes Go.ChangeAt Go.RowKit
set_option linter.unusedVariables false
namespace DC
open L NC
def Row3 (W : World) (a : Option Addr) (n c : Nat) (zs : List Int) : Prop :=
  (a = none ∧ n = 0 ∧ c = 0 ∧ zs = []) ∨ ∃ x, a = some x ∧ n ≤ c ∧ c ≤ maxLen ∧ zs.length = c ∧ (∀ i, i < zs.length → W.cell? (x.add i) = some (.int .u32 (zs.getD i 0))) ∧ ∀ n ∈ zs, (Lit.int .u32 n).wf = true
set_option maxRecDepth 100000 in
theorem open_dyad {H : Type} {enc : TypeId × Value → H} {W : World} {cs : Array Value} {d : DataW H} {p : List MemPlace} (h : DataW.Trod enc Tryd.prog W 0 (fun _ => true) true 25 (.agg cs) d p) :
    ∃ b a n c x zs, cs = #[.bool b, .slice a n c, .int .i64 x] ∧ Row3 W a n c zs := by
  obtain ⟨fuel, hf⟩ := h
  obtain ⟨y0, y1, y2, m, _, hl, f0, f1, f2⟩ := Go.Deep.trod_struct3 Tryd.underlying25 hf
  have hl3 : cs.toList.length = 3 := hl.trans (by kernel_rfl)
  have c0 : Tryd.prog.cellsOf 4 = 1 := by kernel_rfl
  have c1 : Tryd.prog.cellsOf 23 = 1 := by kernel_rfl
  have c2 : Tryd.prog.cellsOf 3 = 1 := by kernel_rfl
  obtain ⟨l, hl'⟩ : ∃ l, cs.toList = l := ⟨_, rfl⟩
  have hl0 : (Value.agg cs).cells.toList = l := hl'
  rw [hl0] at f0 f1 f2
  rw [hl'] at hl3
  match l, hl3, hl' with
  | [u0, u1, u2], _, hl' =>
    simp only [c0, c1, c2, List.drop_zero, List.take_succ_cons, List.take_zero, List.drop_succ_cons] at f0 f1 f2
    obtain ⟨b, e0, _⟩ := DataW.trod_bool Tryd.underlying4 f0
    obtain ⟨x, e2, _, _⟩ := DataW.trod_int Tryd.underlying3 f2
    injection e0 with e0
    injection e2 with e2
    subst e0
    subst e2
    rcases open_ints Tryd.underlying23 Tryd.underlying34 (by kernel_rfl) f1 with ⟨hcs, _⟩ | ⟨a, n, c, zs, hcs, _, hl, hm, hz, _, hcell, hwz⟩
    · injection hcs with hcs
      subst hcs
      exact ⟨b, none, 0, 0, x, [], by apply Array.toList_inj.1; rw [hl'], .inl ⟨rfl, rfl, rfl, rfl⟩⟩
    · injection hcs with hcs
      subst hcs
      exact ⟨b, some a, n, c, x, zs, by apply Array.toList_inj.1; rw [hl'], .inr ⟨a, rfl, hl, hm, by simpa using hz, hcell, hwz⟩⟩
theorem row_dv {W : World} {b : Bool} {a : Option Addr} {n c : Nat} {x : Int} {zs : List Int} (h : Row3 W a n c zs) : ∃ d, DV W (.agg #[.bool b, .slice a n c, .int .i64 x]) d := by
  obtain ⟨s, l, k⟩ := NC.row_sl h
  exact DV.of W b a n c x _ s l k
end DC
end Go.Proofs.YtjplemfdhhkbaaaDoor
