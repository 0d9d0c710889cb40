/-
  RoundNear: the walk.
-/
import Derived.Test.YtpmpkllpaceloaaDoorRK5
namespace Go.Proofs.YtpmpkllpaceloaaDoor
set_option linter.unusedVariables false
set_option linter.unusedSimpArgs false
open Go.RowKit
set_option linter.unusedVariables false
set_option linter.unusedSimpArgs false
namespace RC
open L NC NK DC
open Z (Nz Tz cmpv)
theorem two_set {W0 W : World} {gp gq : Nat} {bp bq : Bool} {Ap Aq : Option Addr} {np cp nq cq : Nat} {xp xq : Int} {dp dq : Dy} (hne : gp ≠ gq) (Xp : BX W gp bp Ap np cp xp) (Xq : BX W gq bq Aq nq cq xq) (Gp : GV W bp Ap np cp xp dp) (Gq : GV W bq Aq nq cq xq dq)
    (D : Below W0.heap.size W0 W) (hp : W0.heap.size ≤ gp) (hq : W0.heap.size ≤ gq) :
    BX ((W.setCell ⟨gp, 0, none⟩ (.bool false)).setCell ⟨gq, 0, none⟩ (.bool false)) gp false Ap np cp xp ∧ BX ((W.setCell ⟨gp, 0, none⟩ (.bool false)).setCell ⟨gq, 0, none⟩ (.bool false)) gq false Aq nq cq xq ∧
    DV ((W.setCell ⟨gp, 0, none⟩ (.bool false)).setCell ⟨gq, 0, none⟩ (.bool false)) (.agg #[.bool false, .slice Ap np cp, .int .i64 xp]) (ab dp) ∧ DV ((W.setCell ⟨gp, 0, none⟩ (.bool false)).setCell ⟨gq, 0, none⟩ (.bool false)) (.agg #[.bool false, .slice Aq nq cq, .int .i64 xq]) (ab dq) ∧
    Below W0.heap.size W0 ((W.setCell ⟨gp, 0, none⟩ (.bool false)).setCell ⟨gq, 0, none⟩ (.bool false)) := by
  obtain ⟨p0, p1, p2⟩ := Xp
  obtain ⟨q0, q1, q2⟩ := Xq
  have q0' : (W.setCell ⟨gp, 0, none⟩ (.bool false)).cell? ⟨gq, 0, none⟩ = some (.bool bq) := by rw [World.cell?_setCell_other _ _ _ _ (by intro h; have h9 := congrArg Addr.block h; simp only at h9; omega)]; exact q0
  have gset : ∀ {b A n c x d}, GV W b A n c x d → GV ((W.setCell ⟨gp, 0, none⟩ (.bool false)).setCell ⟨gq, 0, none⟩ (.bool false)) b A n c x d := fun h =>
    ⟨nv_set (nv_set h.1 p0 (fun z h => by cases h) _) q0' (fun z h => by cases h) _, h.2⟩
  refine ⟨⟨?_, ?_, ?_⟩, ⟨?_, ?_, ?_⟩, (gv_ab (gset Gp)).dv, (gv_ab (gset Gq)).dv, (D.setCell hp _).setCell hq _⟩
  · rw [World.cell?_setCell_other _ _ _ _ (by intro h; have h9 := congrArg Addr.block h; simp only at h9; omega)]; exact World.cell?_setCell_same' _ _ _ (by rw [p0]; rfl)
  · rw [World.cell?_setCell_other _ _ _ _ (by simp), World.cell?_setCell_other _ _ _ _ (by simp)]; exact p1
  · rw [World.cell?_setCell_other _ _ _ _ (by simp), World.cell?_setCell_other _ _ _ _ (by simp)]; exact p2
  · exact World.cell?_setCell_same' _ _ _ (by rw [q0']; rfl)
  · rw [World.cell?_setCell_other _ _ _ _ (by simp), World.cell?_setCell_other _ _ _ _ (by simp)]; exact q1
  · rw [World.cell?_setCell_other _ _ _ _ (by simp), World.cell?_setCell_other _ _ _ _ (by simp)]; exact q2
end RC
end Go.Proofs.YtpmpkllpaceloaaDoor
