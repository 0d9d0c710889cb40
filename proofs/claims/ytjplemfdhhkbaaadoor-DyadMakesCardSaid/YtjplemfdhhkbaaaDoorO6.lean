/-
  What DyadMakes asks of a row of limbs.
-/
import Derived.Test.YtjplemfdhhkbaaaDoorO5
import Derived.Test.YtjplemfdhhkbaaaDoorE7
import Derived.Test.YtjplemfdhhkbaaaDoorE2
namespace Go.Proofs.YtjplemfdhhkbaaaDoor
set_option linter.unusedVariables false
set_option linter.unusedSimpArgs false
open Go.RowKit
set_option linter.unusedVariables false
set_option linter.unusedSimpArgs false
namespace QC
open Z (Nz Tz cmpv big)
open L NC NK ZC DC
theorem cls_big {x : Int} : 4 ≤ F.cls x ↔ F.exq x = 2047 := by
  have h := F.exq_bd x
  unfold F.cls
  repeat (first | omega | split)
theorem rights_1 (l : List Int) : rights [l] = chk l := by
  unfold rights
  by_cases h : right l = 0
  · rw [if_pos h, show chk l = right l from rfl, h]; rfl
  · rw [if_neg h]; rfl
theorem ss_1 {w : World} {u : Value} {l : List Int} {g : Nat} (hb : Blk w g 23 #[u]) (hs : Sl .u32 w u l) : SS w (.slice (some ⟨g, 0, none⟩) 1 1) [l] := by
  refine ⟨_, 1, rfl, by simp, fun j hj => ?_⟩
  have h1 : [l].length = 1 := rfl
  obtain rfl : j = 0 := by omega
  exact ⟨⟨g, 0, none⟩, u, rfl, hb.at_ 0 rfl, hs⟩
theorem right_1 (u : Value) (l : List Int) (w : World) (g : Nat) (hb : Blk w g 23 #[u]) (hs : Sl .u32 w u l) (hl : l.length ≤ 9223372036854775807) :
    Calls Tryd.prog 23 #[.slice (some ⟨g, 0, none⟩) 1 1] w (ZC.RetQ w (.int .i64 (chk l))) := by
  rw [← rights_1]
  exact ZC.LimbsRight_c _ _ _ (ss_1 hb hs) (by simp) (by intro x hx; simp at hx; rcases hx with rfl; assumption)
/-- a number with a mark and an exponent, as QMake lays it -/
theorem told_m {b : Bool} {A : Option Addr} {n c : Nat} {x : Int} {r : Re} {u : Value} {m X : Int} {w : World} {M : Nat} {E : Nat} (hG : GV w b A n c x r.d) (hQ : QV w u (mkz m X) (mkt X)) (hm : m.natAbs < 2 ^ M) (hr : r = fin m X) (h1 : -10000 ≤ X) (h2 : X ≤ E) (hE : M + E ≤ 340000) :
    Calls Tryd.prog 21 #[.agg #[.bool b, .slice A n c, .int .i64 x], .int .i64 r.e, u] w (DC.RetB w (.bool true)) := by
  have ht := mkt_bd X 10000 (by omega)
  exact told_s (M := M + E) (T := 10000) hG ⟨_, _, hQ, mkz_lt hm h2, ht.1, ht.2, mk_sc m X (by omega)⟩ hE (by decide) hr rfl (by omega)
end QC
end Go.Proofs.YtjplemfdhhkbaaaDoor
