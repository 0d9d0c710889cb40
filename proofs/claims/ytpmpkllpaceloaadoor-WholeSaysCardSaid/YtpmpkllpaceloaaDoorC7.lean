/-
  Texts glued together for a claim: D5 D6 D7 D8 D9 D10 D11 D12 Pure1 FloatC D13 D14 D15 NIn DK0 R1 R2 R3.
-/
import Derived.Test.YtpmpkllpaceloaaDoorC6
import Derived.Test.YtpmpkllpaceloaaDoorC1
import Derived.Test.YtpmpkllpaceloaaDoorC4
import Derived.Laws.BitsAllLaws
import Derived.Test.YtpmpkllpaceloaaDoorProg
import Derived.WalkKit
import Derived.WalkLawsBesides
import Derived.Lib.Hide
/-
  Package dyad: addSizes.
-/
namespace Go.Proofs.YtpmpkllpaceloaaDoor
set_option linter.unusedVariables false
set_option linter.unusedSimpArgs false
open Go.RowKit
set_option linter.unusedVariables false
namespace DC
open L NC NK
open Z (Nz Tz cmpv)
theorem p400_pos : (0 : Int) < 4294967296 ^ 400 := pow_pos 400
theorem p400_big : (4294967296 : Int) ^ 400 ≤ big3 := by unfold big3; exact pow_mono (by decide)
end DC
end Go.Proofs.YtpmpkllpaceloaaDoor

/-
  Package dyad: subSizes.
-/
namespace Go.Proofs.YtpmpkllpaceloaaDoor
set_option linter.unusedVariables false
set_option linter.unusedSimpArgs false
open Go.RowKit
set_option linter.unusedVariables false
namespace DC
open L NC NK
open Z (Nz Tz cmpv)
end DC
end Go.Proofs.YtpmpkllpaceloaaDoor

/-
  Package dyad: add; the arguments in general; checkBoth.
-/
namespace Go.Proofs.YtpmpkllpaceloaaDoor
set_option linter.unusedVariables false
set_option linter.unusedSimpArgs false
open Go.RowKit
set_option linter.unusedVariables false
namespace DC
open L NC NK
open Z (Nz Tz cmpv)
theorem gv_sg {w : World} {b A n c x d} (h : GV w b A n c x d) : sgm b d.m.natAbs = d.m := by
  obtain ⟨-, hb, -⟩ := h
  rw [hb]; unfold sgm
  by_cases h : d.m < 0 <;> simp [h] <;> omega
theorem cmpv_neg {x y : Int} (h : cmpv x y < 0) : x ≤ y := by
  rcases Int.lt_trichotomy x y with h1 | h1 | h1
  · omega
  · omega
  · rw [Z.cmpv_gt h1] at h; omega
end DC
end Go.Proofs.YtpmpkllpaceloaaDoor

/-
  Package dyad: the arguments in general; checkBoth, Add, Mul, Shift.
-/
namespace Go.Proofs.YtpmpkllpaceloaaDoor
set_option linter.unusedVariables false
set_option linter.unusedSimpArgs false
open Go.RowKit
set_option linter.unusedVariables false
namespace DC
open L NC NK
open Z (Nz Tz cmpv)
/-- any Dyad: what Check tells of it, and, if it is in its form, what it is -/
def DV (w : World) (v : Value) (d : Dy) : Prop :=
  ∃ b A n c x l, v = .agg #[.bool b, .slice A n c, .int .i64 x] ∧ Sl .u32 w (.slice A n c) l ∧ Lim l ∧ l.length ≤ 9223372036854775807 ∧ d.er = dchk b l x ∧ (d.er = 0 → GV w b A n c x d) ∧ (d.er ≠ 0 → d.m = 0 ∧ d.x = 0)
theorem DV.below {w w' : World} {v : Value} {d : Dy} (h : DV w v d) (hb : Below w.heap.size w w') : DV w' v d := by
  obtain ⟨b, A, n, c, x, l, e, h1, h2, h3, h4, h5, h6⟩ := h
  exact ⟨b, A, n, c, x, l, e, h1.below hb, h2, h3, h4, fun h => (h5 h).below hb, h6⟩
theorem DV.drewN {w : World} {v : Value} {d : Dy} (h : DV w v d) (k : Nat) : DV (w.drewN k) v d := h
theorem dchk0 {b : Bool} {l : List Int} {x : Int} (h : dchk b l x = 0) : l.length ≤ 400 ∧ -10000 ≤ x ∧ x ≤ 10000 ∧ nrm b l x = true := by
  unfold dchk at h
  by_cases h1 : 400 < l.length ∨ ¬ (-10000 ≤ x ∧ x ≤ 10000)
  · rw [if_pos h1] at h; cases h
  · rw [if_neg h1] at h
    by_cases h2 : nrm b l x = true
    · exact ⟨by omega, by omega, by omega, h2⟩
    · rw [if_neg h2] at h; cases h
theorem nrm_gv {w : World} {b : Bool} {A : Option Addr} {n c : Nat} {x : Int} {l : List Int} (hs : Sl .u32 w (.slice A n c) l) (Ll : Lim l) (h : dchk b l x = 0) : GV w b A n c x ⟨0, sgm b (lv l), x⟩ := by
  obtain ⟨h1, h2, h3, h4⟩ := dchk0 h
  have hp := lv_nonneg Ll
  have hlt := Int.lt_of_lt_of_le (lv_lt Ll) (pow_mono h1)
  have P := p400_pos
  unfold nrm at h4
  by_cases h0 : l = []
  · rw [if_pos h0] at h4
    simp only [Bool.and_eq_true, Bool.not_eq_true', decide_eq_true_eq] at h4
    obtain ⟨rfl, rfl⟩ := h4
    subst h0
    refine ⟨⟨[], hs, Ll, fun h => absurd rfl h, rfl⟩, rfl, rfl, rfl, .inl ⟨rfl, rfl⟩, ?_⟩
    unfold inb
    generalize (4294967296 : Int) ^ 400 = c400 at *
    exact ⟨by simp [sgm, lv]; omega, by simp [sgm, lv]; omega, by omega, by omega⟩
  · rw [if_neg h0] at h4
    simp only [Bool.and_eq_true, decide_eq_true_eq] at h4
    obtain ⟨h5, h6⟩ := h4
    have h7 := chk_ok.1 h5
    have hpos : 0 < lv l := by omega
    obtain ⟨z, hz⟩ : ∃ z, lv l = z := ⟨_, rfl⟩
    rw [hz] at hp hlt h6 hpos ⊢
    refine ⟨⟨l, hs, Ll, h7.2, ?_⟩, ?_, rfl, rfl, .inr ?_, ?_⟩
    · rw [hz]
      show z = ((sgm b z).natAbs : Int)
      unfold sgm; cases b <;> simp <;> omega
    · show b = decide (sgm b z < 0)
      unfold sgm; cases b <;> simp <;> omega
    · show sgm b z % 2 = 1
      unfold sgm; cases b <;> simp <;> omega
    · unfold inb
      show sgm b z < _ ∧ _ < sgm b z ∧ -10000 ≤ x ∧ x ≤ 10000
      generalize (4294967296 : Int) ^ 400 = c400 at *
      unfold sgm
      refine ⟨?_, ?_, h2, h3⟩ <;> (cases b <;> simp <;> omega)
theorem DV.of (w : World) (b : Bool) (A : Option Addr) (n c : Nat) (x : Int) (l : List Int) (hs : Sl .u32 w (.slice A n c) l) (Ll : Lim l) (hl : l.length ≤ 9223372036854775807) : ∃ d, DV w (.agg #[.bool b, .slice A n c, .int .i64 x]) d := by
  by_cases h : dchk b l x = 0
  · exact ⟨⟨0, sgm b (lv l), x⟩, b, A, n, c, x, l, rfl, hs, Ll, hl, h.symm, fun _ => nrm_gv hs Ll h, fun h => absurd rfl h⟩
  · exact ⟨⟨dchk b l x, 0, 0⟩, b, A, n, c, x, l, rfl, hs, Ll, hl, rfl, fun e => absurd e h, fun _ => ⟨rfl, rfl⟩⟩
theorem GV.dv {w : World} {b A n c x d} (h : GV w b A n c x d) : DV w (.agg #[.bool b, .slice A n c, .int .i64 x]) d := by
  obtain ⟨⟨l, h1, h2, h3, h4⟩, hb, hx, he, hc, hi⟩ := h
  have hs : lv l < 4294967296 ^ 400 := by
    unfold inb at hi
    generalize (4294967296 : Int) ^ 400 = c400 at *
    omega
  have hl := len_le h2 h3 hs
  refine ⟨b, A, n, c, x, l, rfl, h1, h2, by omega, ?_, fun _ => ⟨⟨l, h1, h2, h3, h4⟩, hb, hx, he, hc, hi⟩, fun h => absurd he h⟩
  rw [he]
  unfold dchk
  rw [if_neg, if_pos]
  · unfold nrm
    by_cases h0 : l = []
    · rw [if_pos h0]
      rw [h0] at h4
      have hm : d.m = 0 := by simp [lv] at h4; omega
      unfold can at hc
      have hx0 : x = 0 := by omega
      rw [hb, hm, hx0]; rfl
    · rw [if_neg h0]
      have hc1 : chk l = 0 := chk_ok.2 ⟨hl, h3⟩
      have hm : d.m ≠ 0 := by
        intro h
        have := lv_ge h2 h3 h0
        have := pow_pos (l.length - 1)
        rw [h] at h4
        simp at h4
        omega
      unfold can at hc
      have ho : lv l % 2 = 1 := by omega
      rw [hc1, ho]; rfl
  · intro h
    unfold inb at hi
    omega
end DC
end Go.Proofs.YtpmpkllpaceloaaDoor

/-
  Package dyad: checkBoth, Add, Mul, Shift.
-/
namespace Go.Proofs.YtpmpkllpaceloaaDoor
set_option linter.unusedVariables false
set_option linter.unusedSimpArgs false
open Go.RowKit
set_option linter.unusedVariables false
namespace DC
open L NC NK
open Z (Nz Tz cmpv)
theorem Check_d (v : Value) (d : Dy) (w : World) (h : DV w v d) : Calls Tryd.prog 63 #[v] w (RetB w (.int .i64 d.er)) := by
  obtain ⟨b, A, n, c, x, l, rfl, h1, h2, h3, h4, h5, h6⟩ := h
  rw [h4]
  exact Check_c b A n c x l w h1 h2 h3
end DC
end Go.Proofs.YtpmpkllpaceloaaDoor

/-
  Package dyad: Sub, Shift.
-/
namespace Go.Proofs.YtpmpkllpaceloaaDoor
set_option linter.unusedVariables false
set_option linter.unusedSimpArgs false
open Go.RowKit
set_option linter.unusedVariables false
namespace DC
open L NC NK
open Z (Nz Tz cmpv)
end DC
end Go.Proofs.YtpmpkllpaceloaaDoor

/-
  Package dyad: Shift, Make, Same, Cmp.
-/
namespace Go.Proofs.YtpmpkllpaceloaaDoor
set_option linter.unusedVariables false
set_option linter.unusedSimpArgs false
open Go.RowKit
set_option linter.unusedVariables false
namespace DC
open L NC NK
open Z (Nz Tz cmpv)
theorem box1 (w : World) (b1 : Bool) (A1 : Option Addr) (n1 c1 : Nat) (x1 : Int) :
    ∃ W0, (w.alloc (.cells #[.bool b1, .slice A1 n1 c1, .int .i64 x1] 51)).alloc (.cells #[.bool false, .slice none 0 0, .int .i64 0] 51) = W0 ∧ Below w.heap.size w W0 ∧
    (∀ W, Below W0.heap.size W0 W → BX W w.heap.size b1 A1 n1 c1 x1 ∧ Blk W (w.heap.size + 1) 51 #[.bool false, .slice none 0 0, .int .i64 0]) := by
  obtain ⟨N1, N2, NS, NB⟩ := new2 w 51 51 #[.bool b1, .slice A1 n1 c1, .int .i64 x1] #[.bool false, .slice none 0 0, .int .i64 0] 0
  rw [World.drewN_zero] at N1 N2 NS NB
  exact ⟨_, rfl, NB, fun W h => ⟨BX.of (N1.below h N1.lt), N2.below h N2.lt⟩⟩
theorem Shift_d (v : Value) (d : Dy) (n : Int) (w : World) (h : DV w v d) (hT : TabD w) : Calls Tryd.prog 66 #[v, .int .i64 n] w (RetD w (Shf d n)) := by
  have C1 : ∀ W, Below w.heap.size w W → Calls Tryd.prog 63 #[v] W (RetB W (.int .i64 d.er)) := fun W hW => Check_d v d W (h.below hW)
  obtain ⟨b1, A1, n1, c1, x1, l1, rfl, -, -, -, -, g1, -⟩ := h
  obtain ⟨W0, hW0, D0, KB⟩ := box1 w b1 A1 n1 c1 x1
  have C1 := Lib.hid (C1 W0 D0)
  have KB := Lib.hid KB
  have D0 := Lib.hid D0
  have HW0 := Lib.hid hW0
  unfold Shf
  obtain ⟨E, hE⟩ : ∃ E, d.er = E := ⟨_, rfl⟩
  rw [hE] at C1 ⊢
  by_cases h0 : E = 0
  · rw [if_neg (by simpa using h0)]
    have t1 : (E != 0) = false := by simp [h0]
    by_cases hn : n < -20000 ∨ 20000 < n
    · rw [if_pos hn]
      rcases hn with hn | hn
      · clear h0 hE hW0 g1 hT
        go_enter Tryd.func66, Tryd.ntmps66
        go_wp2_with (first
          | (go_at_call 63; rw [HW0.out]; (with_reducible refine (C1.out).mono ?_); rintro e w2 ⟨rfl, hb0⟩; have D := Lib.hid hb0; obtain ⟨⟨p0, p1, p2⟩, R2⟩ := KB.out _ D.out; have t0 := R2.at_ 0 rfl; have t1 := R2.at_ 1 rfl; have t2 := R2.at_ 2 rfl; have f0 := R2.frozen 0; have f1 := R2.frozen 1; have f2 := R2.frozen 2; have R2 := Lib.hid R2))
        exact bodyPost_ret (v := .tuple #[.agg #[.bool false, .slice none 0 0, .int .i64 0], .int .i64 1]) (by simp [results, Tryd.results66, go_sem, t0, t1, t2]) rfl
          (RetD.none (below3 (D0.out.trans (D.out.mono D0.out.size)) (by omega) _ _ _))
      · have hn2 : ¬ n < -20000 := by omega
        clear h0 hE hW0 g1 hT
        go_enter Tryd.func66, Tryd.ntmps66
        go_wp2_with (first
          | (go_at_call 63; rw [HW0.out]; (with_reducible refine (C1.out).mono ?_); rintro e w2 ⟨rfl, hb0⟩; have D := Lib.hid hb0; obtain ⟨⟨p0, p1, p2⟩, R2⟩ := KB.out _ D.out; have t0 := R2.at_ 0 rfl; have t1 := R2.at_ 1 rfl; have t2 := R2.at_ 2 rfl; have f0 := R2.frozen 0; have f1 := R2.frozen 1; have f2 := R2.frozen 2; have R2 := Lib.hid R2))
        exact bodyPost_ret (v := .tuple #[.agg #[.bool false, .slice none 0 0, .int .i64 0], .int .i64 1]) (by simp [results, Tryd.results66, go_sem, t0, t1, t2]) rfl
          (RetD.none (below3 (D0.out.trans (D.out.mono D0.out.size)) (by omega) _ _ _))
    · rw [if_neg hn]
      have hn1 : ¬ n < -20000 := by omega
      have hn2 : ¬ 20000 < n := by omega
      rw [h0] at hE
      have hx := (g1 hE).2.2.1
      have hi := (g1 hE).2.2.2.2.2.2.2
      have i1 : IntKind.i64.wrap (x1 + n) = x1 + n := IntWalk.i64_in _ (by omega)
      have FN : Hid (∀ W, Below W0.heap.size W0 W → Calls Tryd.prog 62 #[.bool b1, .slice A1 n1 c1, .int .i64 (x1 + n)] W (RetD W (fin d.m (d.x + n)))) := fun W hW => by
        have g := ((g1 hE).below D0.out).below hW
        have s := g.pv.small
        have := finish_any b1 A1 n1 c1 (x1 + n) d.m.natAbs W g.1 (Int.lt_of_lt_of_le (s.2 rfl) p400_big) (by omega) (.inl (s.2 rfl)) ((hT.below D0.out).below hW)
        rw [gv_sg g, hx] at this
        rw [hx]; exact this
      generalize fin d.m (d.x + n) = r at *
      clear h0 hE hW0 g1 hT hn hx hi
      go_enter Tryd.func66, Tryd.ntmps66
      go_wp2_with (first
        | (go_at_call 63; rw [HW0.out]; (with_reducible refine (C1.out).mono ?_); rintro e w2 ⟨rfl, hb0⟩; have D := Lib.hid hb0; obtain ⟨⟨p0, p1, p2⟩, R2⟩ := KB.out _ D.out; have t0 := R2.at_ 0 rfl; have t1 := R2.at_ 1 rfl; have t2 := R2.at_ 2 rfl; have f0 := R2.frozen 0; have f1 := R2.frozen 1; have f2 := R2.frozen 2; have R2 := Lib.hid R2)
        | (go_at_call 62; (with_reducible refine (FN.out _ D.out).mono ?_); rintro e w6 ⟨bb, A5, n5, c5, x5, rfl, hv5, hb0⟩; have D := Lib.hid (D.out.trans (hb0.mono D.out.size)); obtain ⟨⟨p0, p1, p2⟩, R2⟩ := KB.out _ D.out; have t0 := R2.at_ 0 rfl; have t1 := R2.at_ 1 rfl; have t2 := R2.at_ 2 rfl; have f0 := R2.frozen 0; have f1 := R2.frozen 1; have f2 := R2.frozen 2; have R2 := Lib.hid R2))
      exact bodyPost_ret (v := .tuple #[.agg #[.bool bb, .slice A5 n5 c5, .int .i64 x5], .int .i64 r.e]) (by simp [results, Tryd.results66, go_sem, t0, t1, t2]) rfl
        ⟨_, _, _, _, _, rfl, hv5.set3 R2.out _ _ _ (by intro z h; cases h) (by intro z h; cases h), below3 (D0.out.trans (D.out.mono D0.out.size)) (by omega) _ _ _⟩
  · rw [if_pos (by simpa using h0)]
    have t1 : (E != 0) = true := by simp [h0]
    clear h0 hE hW0 g1 hT
    go_enter Tryd.func66, Tryd.ntmps66
    go_wp2_with (first
      | (go_at_call 63; rw [HW0.out]; (with_reducible refine (C1.out).mono ?_); rintro e w2 ⟨rfl, hb0⟩; have D := Lib.hid hb0; obtain ⟨⟨p0, p1, p2⟩, R2⟩ := KB.out _ D.out; have t0 := R2.at_ 0 rfl; have t1 := R2.at_ 1 rfl; have t2 := R2.at_ 2 rfl; have f0 := R2.frozen 0; have f1 := R2.frozen 1; have f2 := R2.frozen 2; have R2 := Lib.hid R2))
    exact bodyPost_ret (v := .tuple #[.agg #[.bool false, .slice none 0 0, .int .i64 0], .int .i64 E]) (by simp [results, Tryd.results66, go_sem, t0, t1, t2]) rfl
      (RetD.none (below3 (D0.out.trans (D.out.mono D0.out.size)) (by omega) _ _ _))
def Mk (b : Bool) (er z x : Int) : Re := if er ≠ 0 then ⟨er, dz⟩ else if ¬ (-10000 ≤ x ∧ x ≤ 10000) then ⟨1, dz⟩ else fin (sgm b z) x
theorem Make_d (b : Bool) (A : Option Addr) (n c : Nat) (er z x : Int) (w : World) (h : PV w (.slice A n c) er z) (hT : TabD w) : Calls Tryd.prog 38 #[.bool b, .slice A n c, .int .i64 x] w (RetD w (Mk b er z x)) := by
  obtain ⟨W0, hW0, D0, ZS, KB⟩ := res0 w
  have C1 : Hid (Calls Tryd.prog 75 #[.slice A n c] W0 (fun e w' => e = .returned (.int .i64 er) ∧ W0 = w')) := by
    obtain ⟨l, h1, h2, h3, h4, h5⟩ := h
    have := NC.Check_c _ l W0 (h1.below D0) h3
    rw [h4] at this
    exact this
  have IE : Hid (∀ W, Calls Tryd.prog 76 #[.int .i64 x] W (fun e w' => e = .returned (.bool (decide (-10000 ≤ x ∧ x ≤ 10000))) ∧ W = w')) := fun W => isExp_c x W
  have KB := Lib.hid KB
  have D0 := Lib.hid D0
  have HW0 := Lib.hid hW0
  unfold Mk
  by_cases h0 : er = 0
  · rw [if_neg (by simpa using h0)]
    have t1 : (er != 0) = false := by simp [h0]
    by_cases hn : -10000 ≤ x ∧ x ≤ 10000
    · rw [if_neg (by simpa using hn)]
      rw [decide_eq_true hn] at IE
      have FN : Hid (∀ W, Below W0.heap.size W0 W → Calls Tryd.prog 62 #[.bool b, .slice A n c, .int .i64 x] W (RetD W (fin (sgm b z) x))) := fun W hW => by
        have s := h.small
        rw [h0] at s h
        exact finish_any b A n c x z W ((h.below D0.out).below hW).nv (Int.lt_of_lt_of_le (s.2 rfl) p400_big) (by omega) (.inl (s.2 rfl)) ((hT.below D0.out).below hW)
      generalize fin (sgm b z) x = r at *
      have D := Lib.hid (Below.refl W0.heap.size W0)
      clear h0 hW0 hT hn h
      go_enter Tryd.func38, Tryd.ntmps38
      go_wp2_with (first
        | (go_at_call 75; rw [HW0.out]; (with_reducible refine (C1.out).mono ?_); rintro e w2 ⟨rfl, rfl⟩; have R2 := KB.out _ D.out; have t0 := R2.at_ 0 rfl; have t1 := R2.at_ 1 rfl; have t2 := R2.at_ 2 rfl; have f0 := R2.frozen 0; have f1 := R2.frozen 1; have f2 := R2.frozen 2; have R2 := Lib.hid R2)
        | (go_at_call 76; (with_reducible refine (IE.out _).mono ?_); rintro e w3 ⟨rfl, rfl⟩)
        | (go_at_call 62; (with_reducible refine (FN.out _ D.out).mono ?_); rintro e w6 ⟨bb, A5, n5, c5, x5, rfl, hv5, hb0⟩; have D := Lib.hid (D.out.trans (hb0.mono D.out.size)); have R2 := KB.out _ D.out; have t0 := R2.at_ 0 rfl; have t1 := R2.at_ 1 rfl; have t2 := R2.at_ 2 rfl; have f0 := R2.frozen 0; have f1 := R2.frozen 1; have f2 := R2.frozen 2; have R2 := Lib.hid R2))
      exact bodyPost_ret (v := .tuple #[.agg #[.bool bb, .slice A5 n5 c5, .int .i64 x5], .int .i64 r.e]) (by simp [results, Tryd.results38, go_sem, t0, t1, t2]) rfl
        ⟨_, _, _, _, _, rfl, hv5.set3 R2.out _ _ _ (by intro z h; cases h) (by intro z h; cases h), below3 (D0.out.trans (D.out.mono D0.out.size)) (by omega) _ _ _⟩
    · rw [if_pos hn]
      rw [decide_eq_false hn] at IE
      have D := Lib.hid (Below.refl W0.heap.size W0)
      clear h0 hW0 hT hn h
      go_enter Tryd.func38, Tryd.ntmps38
      go_wp2_with (first
        | (go_at_call 75; rw [HW0.out]; (with_reducible refine (C1.out).mono ?_); rintro e w2 ⟨rfl, rfl⟩; have R2 := KB.out _ D.out; have t0 := R2.at_ 0 rfl; have t1 := R2.at_ 1 rfl; have t2 := R2.at_ 2 rfl; have f0 := R2.frozen 0; have f1 := R2.frozen 1; have f2 := R2.frozen 2; have R2 := Lib.hid R2)
        | (go_at_call 76; (with_reducible refine (IE.out _).mono ?_); rintro e w3 ⟨rfl, rfl⟩))
      exact bodyPost_ret (v := .tuple #[.agg #[.bool false, .slice none 0 0, .int .i64 0], .int .i64 1]) (by simp [results, Tryd.results38, go_sem, t0, t1, t2]) rfl
        (RetD.none (below3 (D0.out.trans (D.out.mono D0.out.size)) (by omega) _ _ _))
  · rw [if_pos (by simpa using h0)]
    have t1 : (er != 0) = true := by simp [h0]
    have D := Lib.hid (Below.refl W0.heap.size W0)
    clear h0 hW0 hT h
    go_enter Tryd.func38, Tryd.ntmps38
    go_wp2_with (first
      | (go_at_call 75; rw [HW0.out]; (with_reducible refine (C1.out).mono ?_); rintro e w2 ⟨rfl, rfl⟩; have R2 := KB.out _ D.out; have t0 := R2.at_ 0 rfl; have t1 := R2.at_ 1 rfl; have t2 := R2.at_ 2 rfl; have f0 := R2.frozen 0; have f1 := R2.frozen 1; have f2 := R2.frozen 2; have R2 := Lib.hid R2))
    exact bodyPost_ret (v := .tuple #[.agg #[.bool false, .slice none 0 0, .int .i64 0], .int .i64 er]) (by simp [results, Tryd.results38, go_sem, t0, t1, t2]) rfl
      (RetD.none (below3 (D0.out.trans (D.out.mono D0.out.size)) (by omega) _ _ _))
end DC
end Go.Proofs.YtpmpkllpaceloaaDoor

/-
  Package dyad: Same, Cmp.
-/
namespace Go.Proofs.YtpmpkllpaceloaaDoor
set_option linter.unusedVariables false
set_option linter.unusedSimpArgs false
open Go.RowKit
set_option linter.unusedVariables false
namespace DC
open L NC NK
open Z (Nz Tz cmpv)
end DC
end Go.Proofs.YtpmpkllpaceloaaDoor

/-
  Plain mathematics for package float: sign, exponent, fraction, class, rank and steps of a number's bits, as functions on integers; no program in sight.
-/
namespace Go.Proofs.YtpmpkllpaceloaaDoor.F
set_option linter.unusedVariables false
set_option linter.unusedSimpArgs false
open Go
set_option linter.unusedVariables false

/-- the sign -/
def sgn (x : Int) : Bool := decide (9223372036854775808 ≤ x)
def neg (x : Int) : Int := if x < 9223372036854775808 then x + 9223372036854775808 else x - 9223372036854775808
def abs (x : Int) : Int := x % 9223372036854775808
def exq (x : Int) : Int := x % 9223372036854775808 / 4503599627370496
def fra (x : Int) : Int := x % 4503599627370496
def cls (x : Int) : Int := if exq x = 0 then (if fra x = 0 then 1 else 2) else if exq x < 2047 then 3 else if fra x = 0 then 4 else 5
/-- the rank of a number that is one -/
def rnk (x : Int) : Int := if x < 9223372036854775808 then x else 9223372036854775808 - x
/-- the number of a rank -/
def num (n : Int) : Int := if n < 0 then 9223372036854775808 - n else n
theorem sgn_t {x : Int} (h : 9223372036854775808 ≤ x) : sgn x = true := by simp [sgn, h]
theorem sgn_f {x : Int} (h : x < 9223372036854775808) : sgn x = false := by simp [sgn]; omega
theorem sgn_iff (x : Int) : sgn x = true ↔ 9223372036854775808 ≤ x := by simp [sgn]
theorem sgn_iff' (x : Int) : sgn x = false ↔ x < 9223372036854775808 := by simp [sgn]

theorem abs_bd (x : Int) : 0 ≤ abs x ∧ abs x ≤ 9223372036854775807 := by unfold abs; omega
theorem exq_bd (x : Int) : 0 ≤ exq x ∧ exq x ≤ 2047 := by unfold exq; omega
theorem fra_bd (x : Int) : 0 ≤ fra x ∧ fra x ≤ 4503599627370495 := by unfold fra; omega
theorem neg_neg (x : Int) (h0 : 0 ≤ x) (h1 : x ≤ 18446744073709551615) : neg (neg x) = x := by unfold neg; split <;> split <;> omega
theorem xor_nat (x : Nat) (h : x < 18446744073709551616) : x ^^^ 9223372036854775808 = if x < 9223372036854775808 then x + 9223372036854775808 else x - 9223372036854775808 := by
  have h2 : (9223372036854775808 : Nat) = 2 ^ 63 := rfl
  split
  · have e : x ^^^ 9223372036854775808 = x ||| 9223372036854775808 := by
      apply Nat.eq_of_testBit_eq; intro i
      rw [Nat.testBit_xor, Nat.testBit_or]
      by_cases hi : i = 63
      · subst hi; rw [Nat.testBit_lt_two_pow (by omega : x < 2 ^ 63)]; simp
      · have : Nat.testBit 9223372036854775808 i = false := by rw [h2]; exact Nat.testBit_two_pow_of_ne (by omega)
        rw [this]; simp
    rw [e, Nat.or_comm, nat_join 63 _ _ (by decide) (by omega)]; omega
  · obtain ⟨y, rfl⟩ : ∃ y, x = 9223372036854775808 + y := ⟨x - 9223372036854775808, by omega⟩
    have e : (9223372036854775808 + y) = 9223372036854775808 ||| y := (nat_join 63 _ _ (by decide) (by omega)).symm
    rw [e]
    have : (9223372036854775808 ||| y) ^^^ 9223372036854775808 = y := by
      apply Nat.eq_of_testBit_eq; intro i
      rw [Nat.testBit_xor, Nat.testBit_or]
      by_cases hi : i = 63
      · subst hi; rw [Nat.testBit_lt_two_pow (by omega : y < 2 ^ 63)]; simp
      · have : Nat.testBit 9223372036854775808 i = false := by rw [h2]; exact Nat.testBit_two_pow_of_ne (by omega)
        rw [this]; simp
    rw [this]
    have : (9223372036854775808 ||| y) = 9223372036854775808 + y := nat_join 63 _ _ (by decide) (by omega)
    omega
theorem neg_bits (x : Int) (h0 : 0 ≤ x) (h1 : x ≤ 18446744073709551615) : bits .xor .u64 x 9223372036854775808 = neg x := by
  rw [u64_xor x _ h0 (by omega) (by decide) (by decide)]
  rw [show (9223372036854775808 : Int).toNat = 9223372036854775808 from rfl, xor_nat _ (by omega)]
  unfold neg; split <;> split <;> omega
theorem abs_bits (x : Int) (h0 : 0 ≤ x) (h1 : x ≤ 18446744073709551615) : bits .andNot .u64 x 9223372036854775808 = abs x := by
  rw [u64_andNot x _ h0 (by omega) (by decide) (by decide)]
  rw [show 18446744073709551615 - (9223372036854775808 : Int).toNat = 2 ^ 63 - 1 from rfl, Nat.and_two_pow_sub_one_eq_mod]
  unfold abs; omega
def mk (s : Bool) (e f : Int) : Int := if s then neg (e * 4503599627370496 + f) else e * 4503599627370496 + f
theorem mk_parts (x : Int) (h0 : 0 ≤ x) (h1 : x ≤ 18446744073709551615) : mk (sgn x) (exq x) (fra x) = x := by
  unfold mk neg exq fra
  by_cases h : 9223372036854775808 ≤ x
  · rw [sgn_t h]; simp only [if_true]; split <;> omega
  · rw [sgn_f (by omega)]; simp; omega
def ulp (x : Int) : Int := (if 1 ≤ exq x then exq x else 1) - 1075
def nn (x : Int) : Prop := x % 9223372036854775808 ≤ 9218868437227405312
theorem exq_ref (x : Int) : x / 4503599627370496 % 2048 = exq x := by unfold exq; omega
end Go.Proofs.YtpmpkllpaceloaaDoor.F

/-
  What each function of package float returns, for every argument: contracts over the loaded program.
-/
namespace Go.Proofs.YtpmpkllpaceloaaDoor
set_option linter.unusedVariables false
set_option linter.unusedSimpArgs false
open Go.RowKit
set_option linter.unusedVariables false
namespace FloatC
theorem negative_c (x : Int) (h0 : 0 ≤ x) (h1 : x ≤ 18446744073709551615) (w : World) :
    Calls Tryd.prog 59 #[.int .u64 x] w fun e w' => e = .returned (.bool (F.sgn x)) ∧ w = w' := by
  go_enter Tryd.func59, Tryd.ntmps59
  go_wp2
  go_ret
  exact ⟨rfl, rfl⟩
theorem Neg_c (x : Int) (h0 : 0 ≤ x) (h1 : x ≤ 18446744073709551615) (w : World) :
    Calls Tryd.prog 96 #[.int .u64 x] w fun e w' => e = .returned (.int .u64 (F.neg x)) ∧ w = w' := by
  go_enter Tryd.func96, Tryd.ntmps96
  go_wp2
  go_ret
  exact ⟨ret_int (F.neg_bits x h0 h1), rfl⟩
theorem Abs_c (x : Int) (h0 : 0 ≤ x) (h1 : x ≤ 18446744073709551615) (w : World) :
    Calls Tryd.prog 58 #[.int .u64 x] w fun e w' => e = .returned (.int .u64 (F.abs x)) ∧ w = w' := by
  go_enter Tryd.func58, Tryd.ntmps58
  go_wp2
  go_ret
  exact ⟨ret_int (F.abs_bits x h0 h1), rfl⟩
theorem Parts_c (x : Int) (h0 : 0 ≤ x) (h1 : x ≤ 18446744073709551615) (w : World) :
    Calls Tryd.prog 61 #[.int .u64 x] w fun e w' => e = .returned (.tuple #[.bool (F.sgn x), .int .i64 (F.exq x), .int .u64 (F.fra x)]) ∧ w = w' := by
  obtain ⟨a0, a1⟩ := F.abs_bd x
  go_enter Tryd.func61, Tryd.ntmps61
  go_wp2_with (first | (go_at_call 59; (with_reducible refine (negative_c _ h0 h1 _).mono ?_); rintro e w' ⟨rfl, rfl⟩) | (go_at_call 58; (with_reducible refine (Abs_c _ h0 h1 _).mono ?_); rintro e w' ⟨rfl, rfl⟩))
  go_ret3
  exact ⟨rfl, rfl⟩
theorem Class_c (x : Int) (h0 : 0 ≤ x) (h1 : x ≤ 18446744073709551615) (w : World) :
    Calls Tryd.prog 35 #[.int .u64 x] w fun e w' => e = .returned (.int .i64 (F.cls x)) ∧ w = w' := by
  go_enter Tryd.func35, Tryd.ntmps35
  go_wp2_with (go_at_call 61; (with_reducible refine (Parts_c _ h0 h1 _).mono ?_); rintro e w' ⟨rfl, rfl⟩)
  all_goals (go_ret; refine ⟨ret_int ?_, rfl⟩; unfold F.cls; simp_all; try omega)
theorem Ulp_ok (x : Int) (h0 : 0 ≤ x) (h1 : x ≤ 18446744073709551615) (he : F.exq x ≤ 2046) (w : World) :
    Calls Tryd.prog 60 #[.int .u64 x] w fun e w' => e = .returned (.tuple #[.int .i64 (F.ulp x), .int .i64 0]) ∧ w = w' := by
  have hb := F.exq_bd x
  have hc : (F.exq x == 2047) = false := by rw [beq_eq_false_iff_ne]; omega
  by_cases h3 : 1 ≤ F.exq x
  · have hu := Lib.hid (show F.exq x - 1075 = F.ulp x by unfold F.ulp; rw [if_pos h3])
    have hm : max (F.exq x) 1 = F.exq x := by omega
    go_enter Tryd.func60, Tryd.ntmps60
    go_wp2_with (first | (go_at_call 61; (with_reducible refine (Parts_c _ h0 h1 _).mono ?_); rintro e w' ⟨rfl, rfl⟩))
    go_ret2
    rw [← hu.out]
    exact ⟨rfl, rfl⟩
  · have hu := Lib.hid (show -1074 = F.ulp x by unfold F.ulp; rw [if_neg h3]; rfl)
    have hm : max (F.exq x) 1 = 1 := by omega
    go_enter Tryd.func60, Tryd.ntmps60
    go_wp2_with (first | (go_at_call 61; (with_reducible refine (Parts_c _ h0 h1 _).mono ?_); rintro e w' ⟨rfl, rfl⟩))
    go_ret2
    rw [← hu.out]
    exact ⟨rfl, rfl⟩
theorem Ulp_no (x : Int) (h0 : 0 ≤ x) (h1 : x ≤ 18446744073709551615) (he : F.exq x = 2047) (w : World) :
    Calls Tryd.prog 60 #[.int .u64 x] w fun e w' => e = .returned (.tuple #[.int .i64 0, .int .i64 4]) ∧ w = w' := by
  have hc : (F.exq x == 2047) = true := by rw [beq_iff_eq]; omega
  clear he
  go_enter Tryd.func60, Tryd.ntmps60
  go_wp2_with (first | (go_at_call 61; (with_reducible refine (Parts_c _ h0 h1 _).mono ?_); rintro e w' ⟨rfl, rfl⟩))
  go_ret2
  exact ⟨rfl, rfl⟩
end FloatC
end Go.Proofs.YtpmpkllpaceloaaDoor

/-
  Package dyad: Of; one and a half, twice.
-/
namespace Go.Proofs.YtpmpkllpaceloaaDoor
set_option linter.unusedVariables false
set_option linter.unusedSimpArgs false
open Go.RowKit
set_option linter.unusedVariables false
namespace DC
open L NC NK
open Z (Nz Tz cmpv)
def mant (x : Int) : Int := if 0 < F.exq x then F.fra x + 4503599627370496 else F.fra x
def OfD (x : Int) : Re := if F.exq x = 2047 then ⟨4, dz⟩ else fin (sgm (F.sgn x) (mant x)) (F.ulp x)
theorem Of_d (x : Int) (h0 : 0 ≤ x) (h1 : x ≤ 18446744073709551615) (w : World) (hT : TabD w) : Calls Tryd.prog 33 #[.int .u64 x] w (RetD w (OfD x)) := by
  obtain ⟨W0, hW0, D0, ZS, KB⟩ := res0 w
  have KB := Lib.hid KB
  have D0 := Lib.hid D0
  have HW0 := Lib.hid hW0
  have D := Lib.hid (Below.refl W0.heap.size W0)
  unfold OfD
  by_cases h2 : F.exq x = 2047
  · rw [if_pos h2]
    have UL : Hid (∀ W, Calls Tryd.prog 60 #[.int .u64 x] W fun e w' => e = .returned (.tuple #[.int .i64 0, .int .i64 4]) ∧ W = w') := fun W => FloatC.Ulp_no x h0 h1 h2 W
    clear hW0 h0 h1 h2 hT
    go_enter Tryd.func33, Tryd.ntmps33
    go_wp2_with (first
      | (go_at_call 60; rw [HW0.out]; (with_reducible refine (UL.out _).mono ?_); rintro e w2 ⟨rfl, rfl⟩; have R2 := KB.out _ D.out; have t0 := R2.at_ 0 rfl; have t1 := R2.at_ 1 rfl; have t2 := R2.at_ 2 rfl; have f0 := R2.frozen 0; have f1 := R2.frozen 1; have f2 := R2.frozen 2; have R2 := Lib.hid R2))
    exact bodyPost_ret (v := .tuple #[.agg #[.bool false, .slice none 0 0, .int .i64 0], .int .i64 4]) (by simp [results, Tryd.results33, go_sem, t0, t1, t2]) rfl
      (RetD.none (below3 (D0.out.trans (D.out.mono D0.out.size)) (by omega) _ _ _))
  · rw [if_neg h2]
    have hb := F.exq_bd x
    have hf := F.fra_bd x
    have UL : Hid (∀ W, Calls Tryd.prog 60 #[.int .u64 x] W fun e w' => e = .returned (.tuple #[.int .i64 (F.ulp x), .int .i64 0]) ∧ W = w') := fun W => FloatC.Ulp_ok x h0 h1 (by omega) W
    have PA : Hid (∀ W, Calls Tryd.prog 61 #[.int .u64 x] W fun e w' => e = .returned (.tuple #[.bool (F.sgn x), .int .i64 (F.exq x), .int .u64 (F.fra x)]) ∧ W = w') := fun W => FloatC.Parts_c x h0 h1 W
    have mb : 0 ≤ mant x ∧ mant x < 18446744073709551616 := by unfold mant; split <;> omega
    have OF : Hid (∀ W, Calls Tryd.prog 39 #[.int .u64 (mant x)] W (RetV W (mant x))) := fun W => Of_c (mant x) W mb
    have ub : -50000 ≤ F.ulp x ∧ F.ulp x ≤ 50000 := by unfold F.ulp; split <;> omega
    have FN : Hid (∀ W A n c, Below W0.heap.size W0 W → NV W (.slice A n c) (mant x) → Calls Tryd.prog 62 #[.bool (F.sgn x), .slice A n c, .int .i64 (F.ulp x)] W (RetD W (fin (sgm (F.sgn x) (mant x)) (F.ulp x)))) := fun W A n c hW g => by
      have hm : mant x < 4294967296 ^ 400 := Int.lt_trans mb.2 (Int.lt_of_lt_of_le (show (18446744073709551616 : Int) < 4294967296 ^ 3 by decide) (pow_mono (by decide)))
      exact finish_any _ A n c _ _ W g (Int.lt_of_lt_of_le hm p400_big) ub (.inl hm) ((hT.below D0.out).below hW)
    generalize fin (sgm (F.sgn x) (mant x)) (F.ulp x) = r at *
    have HM : Hid ((0 < F.exq x ∧ F.fra x + 4503599627370496 = mant x) ∨ (¬ 0 < F.exq x ∧ F.fra x = mant x)) := by
      by_cases h : 0 < F.exq x
      · left; unfold mant; rw [if_pos h]; exact ⟨h, rfl⟩
      · right; unfold mant; rw [if_neg h]; exact ⟨h, rfl⟩
    have i1 : IntKind.u64.wrap (F.fra x + 4503599627370496) = F.fra x + 4503599627370496 := IntWalk.u64_in _ (by omega)
    generalize mant x = m at *
    generalize F.ulp x = u at *
    generalize F.sgn x = sg at *
    generalize F.exq x = ex at *
    generalize F.fra x = fr at *
    clear hW0 h0 h1 h2 hT hb hf mb ub
    rcases HM.out with ⟨k1, k2⟩ | ⟨k1, k2⟩
    · rw [k2] at i1
      have K2 := Lib.hid k2
      clear k2 HM
      go_enter Tryd.func33, Tryd.ntmps33
      go_wp2_with (first
        | (go_at_call 60; rw [HW0.out]; (with_reducible refine (UL.out _).mono ?_); rintro e w2 ⟨rfl, rfl⟩; have R2 := KB.out _ D.out; have t0 := R2.at_ 0 rfl; have t1 := R2.at_ 1 rfl; have t2 := R2.at_ 2 rfl; have f0 := R2.frozen 0; have f1 := R2.frozen 1; have f2 := R2.frozen 2; have R2 := Lib.hid R2)
        | (go_at_call 61; (with_reducible refine (PA.out _).mono ?_); rintro e w3 ⟨rfl, rfl⟩)
        | (go_at_call 39; (try simp only [K2.out, i1]); (with_reducible refine (OF.out _).mono ?_); rintro e w4 ⟨A6, n6, c6, rfl, ho6, hb0⟩; have D := Lib.hid (D.out.trans (hb0.mono D.out.size)); have R2 := KB.out _ D.out; have t0 := R2.at_ 0 rfl; have t1 := R2.at_ 1 rfl; have t2 := R2.at_ 2 rfl; have f0 := R2.frozen 0; have f1 := R2.frozen 1; have f2 := R2.frozen 2; have R2 := Lib.hid R2)
        | (go_at_call 62; (with_reducible refine (FN.out _ _ _ _ D.out ho6).mono ?_); rintro e w6 ⟨bb, A5, n5, c5, x5, rfl, hv5, hb0⟩; have D := Lib.hid (D.out.trans (hb0.mono D.out.size)); have R2 := KB.out _ D.out; have t0 := R2.at_ 0 rfl; have t1 := R2.at_ 1 rfl; have t2 := R2.at_ 2 rfl; have f0 := R2.frozen 0; have f1 := R2.frozen 1; have f2 := R2.frozen 2; have R2 := Lib.hid R2))
      exact bodyPost_ret (v := .tuple #[.agg #[.bool bb, .slice A5 n5 c5, .int .i64 x5], .int .i64 r.e]) (by simp [results, Tryd.results33, go_sem, t0, t1, t2]) rfl
        ⟨_, _, _, _, _, rfl, hv5.set3 R2.out _ _ _ (by intro z h; cases h) (by intro z h; cases h), below3 (D0.out.trans (D.out.mono D0.out.size)) (by omega) _ _ _⟩
    · subst k2
      clear HM i1
      go_enter Tryd.func33, Tryd.ntmps33
      go_wp2_with (first
        | (go_at_call 60; rw [HW0.out]; (with_reducible refine (UL.out _).mono ?_); rintro e w2 ⟨rfl, rfl⟩; have R2 := KB.out _ D.out; have t0 := R2.at_ 0 rfl; have t1 := R2.at_ 1 rfl; have t2 := R2.at_ 2 rfl; have f0 := R2.frozen 0; have f1 := R2.frozen 1; have f2 := R2.frozen 2; have R2 := Lib.hid R2)
        | (go_at_call 61; (with_reducible refine (PA.out _).mono ?_); rintro e w3 ⟨rfl, rfl⟩)
        | (go_at_call 39; (with_reducible refine (OF.out _).mono ?_); rintro e w4 ⟨A6, n6, c6, rfl, ho6, hb0⟩; have D := Lib.hid (D.out.trans (hb0.mono D.out.size)); have R2 := KB.out _ D.out; have t0 := R2.at_ 0 rfl; have t1 := R2.at_ 1 rfl; have t2 := R2.at_ 2 rfl; have f0 := R2.frozen 0; have f1 := R2.frozen 1; have f2 := R2.frozen 2; have R2 := Lib.hid R2)
        | (go_at_call 62; (with_reducible refine (FN.out _ _ _ _ D.out ho6).mono ?_); rintro e w6 ⟨bb, A5, n5, c5, x5, rfl, hv5, hb0⟩; have D := Lib.hid (D.out.trans (hb0.mono D.out.size)); have R2 := KB.out _ D.out; have t0 := R2.at_ 0 rfl; have t1 := R2.at_ 1 rfl; have t2 := R2.at_ 2 rfl; have f0 := R2.frozen 0; have f1 := R2.frozen 1; have f2 := R2.frozen 2; have R2 := Lib.hid R2))
      exact bodyPost_ret (v := .tuple #[.agg #[.bool bb, .slice A5 n5 c5, .int .i64 x5], .int .i64 r.e]) (by simp [results, Tryd.results33, go_sem, t0, t1, t2]) rfl
        ⟨_, _, _, _, _, rfl, hv5.set3 R2.out _ _ _ (by intro z h; cases h) (by intro z h; cases h), below3 (D0.out.trans (D.out.mono D0.out.size)) (by omega) _ _ _⟩
end DC
end Go.Proofs.YtpmpkllpaceloaaDoor

/-
  One and a half, twice.
-/
namespace Go.Proofs.YtpmpkllpaceloaaDoor
set_option linter.unusedVariables false
set_option linter.unusedSimpArgs false
open Go.RowKit
set_option linter.unusedVariables false
namespace DC
open L NC NK
open Z (Nz Tz cmpv)
end DC
end Go.Proofs.YtpmpkllpaceloaaDoor

/-
  One and a half, twice: the walk.
-/
namespace Go.Proofs.YtpmpkllpaceloaaDoor
set_option linter.unusedVariables false
set_option linter.unusedSimpArgs false
open Go.RowKit
set_option linter.unusedVariables false
namespace DC
open L NC NK
open Z (Nz Tz cmpv)
theorem BX.below {W W' : World} {g : Nat} {b : Bool} {A : Option Addr} {n c : Nat} {x : Int} (h : BX W g b A n c x) (hb : Below W.heap.size W W') : BX W' g b A n c x := by
  obtain ⟨h0, h1, h2⟩ := h
  exact ⟨(hb.cell (World.block_lt_of_cell? W _ h0)).trans h0, (hb.cell (World.block_lt_of_cell? W _ h1)).trans h1, (hb.cell (World.block_lt_of_cell? W _ h2)).trans h2⟩
theorem BX.new (W : World) (b : Bool) (A : Option Addr) (n c : Nat) (x : Int) : BX (W.alloc (.cells #[.bool b, .slice A n c, .int .i64 x] 51)) W.heap.size b A n c x := BX.of (Blk.new W 51 _)
theorem al1 (W : World) (o : Obj) : Below W.heap.size W (W.alloc o) := (Below.refl _ _).alloc (Nat.le_refl _) _
end DC
end Go.Proofs.YtpmpkllpaceloaaDoor

/-
  A slice of limbs that came in, in my words.
-/
namespace Go.Proofs.YtpmpkllpaceloaaDoor
set_option linter.unusedVariables false
set_option linter.unusedSimpArgs false
open Go.RowKit
set_option linter.unusedVariables false
namespace NC
open L
end NC
end Go.Proofs.YtpmpkllpaceloaaDoor

/-
  Sums and products of Dyads, pure; boxed Dyads in memory.
-/
namespace Go.Proofs.YtpmpkllpaceloaaDoor
set_option linter.unusedVariables false
set_option linter.unusedSimpArgs false
open Go.RowKit
set_option linter.unusedVariables false
namespace DC
open L NC NK
open Z (Nz Tz cmpv)
def S (d : Dy) : Int := sc d.m d.x
/-- in its form -/
def Ok (d : Dy) : Prop := d.er = 0 ∧ can d.m d.x ∧ inb d.m d.x
theorem DV.good {w : World} {v : Value} {d : Dy} (h : DV w v d) (e : d.er = 0) : Ok d := by
  obtain ⟨b, A, n, c, x, l, -, -, -, -, -, h5, -⟩ := h
  have := h5 e
  exact ⟨e, this.2.2.2.2.1, this.2.2.2.2.2⟩
theorem fin_ok (m x : Int) : Ok (fin m x).d := by
  have h := fin_good m x
  have := h.1 h.2.1
  exact ⟨h.2.1, this.1, this.2⟩
/-- a boxed Dyad -/
def BD (W : World) (g : Nat) (b : Bool) (A : Option Addr) (n c : Nat) (x : Int) (d : Dy) : Prop := BX W g b A n c x ∧ DV W (.agg #[.bool b, .slice A n c, .int .i64 x]) d
theorem BD.bx {W : World} {g b A n c x d} (h : BD W g b A n c x d) : BX W g b A n c x := h.1
theorem BD.dv {W : World} {g b A n c x d} (h : BD W g b A n c x d) : DV W (.agg #[.bool b, .slice A n c, .int .i64 x]) d := h.2
theorem BD.below {W W' : World} {g b A n c x d} (h : BD W g b A n c x d) (hb : Below W.heap.size W W') : BD W' g b A n c x d := ⟨h.1.below hb, h.2.below hb⟩
theorem BD.new {W : World} {b A n c x d} (h : DV W (.agg #[.bool b, .slice A n c, .int .i64 x]) d) : BD (W.alloc (.cells #[.bool b, .slice A n c, .int .i64 x] 51)) W.heap.size b A n c x d := ⟨BX.new _ _ _ _ _ _, h.below (al1 _ _)⟩
end DC
end Go.Proofs.YtpmpkllpaceloaaDoor

/-
  Package round: modes, zero, odd, away, a word.
-/
namespace Go.Proofs.YtpmpkllpaceloaaDoor
set_option linter.unusedVariables false
set_option linter.unusedSimpArgs false
open Go.RowKit
set_option linter.unusedVariables false
namespace RC
open L NC NK DC
open Z (Nz Tz cmpv)
theorem isMode_c (m : Int) (w : World) : Calls Tryd.prog 64 #[.int .i64 m] w (fun e w' => e = .returned (.bool (decide (0 ≤ m ∧ m ≤ 4))) ∧ w = w') := by
  by_cases h1 : 0 ≤ m
  · by_cases h2 : m ≤ 4
    · have e : decide (0 ≤ m ∧ m ≤ 4) = true := by simp [h1, h2]
      rw [e]
      clear e
      go_enter Tryd.func64, Tryd.ntmps64
      go_wp2
      go_ret
      exact ⟨ret_bool (by simp), rfl⟩
    · have e : decide (0 ≤ m ∧ m ≤ 4) = false := by simp [h1, h2]
      rw [e]
      clear e
      go_enter Tryd.func64, Tryd.ntmps64
      go_wp2
      go_ret
      exact ⟨ret_bool (by simp), rfl⟩
  · have e : decide (0 ≤ m ∧ m ≤ 4) = false := by simp [h1]
    rw [e]
    clear e
    go_enter Tryd.func64, Tryd.ntmps64
    go_wp2
    go_ret
    exact ⟨ret_bool (by simp), rfl⟩
theorem isZero_c (b : Bool) (A : Option Addr) (n c : Nat) (x : Int) (w : World) : Calls Tryd.prog 65 #[.agg #[.bool b, .slice A n c, .int .i64 x]] w (DC.RetB w (.bool (decide (n = 0)))) := by
  go_enter Tryd.func65, Tryd.ntmps65
  go_wp2
  go_ret
  exact ⟨ret_bool (by by_cases h : n = 0 <;> simp [h]), (Below.refl _ _).alloc (Nat.le_refl _) _⟩
theorem isOdd_c (A : Option Addr) (n c : Nat) (z : Int) (w : World) (hv : NV w (.slice A n c) z) : Calls Tryd.prog 69 #[.slice A n c] w (fun e w' => e = .returned (.bool (decide (z % 2 = 1))) ∧ w = w') := by
  obtain ⟨l, hs, Ll, -, hz⟩ := hv
  obtain ⟨en, hc⟩ := hs.len_
  rw [← hz, lv_odd]
  by_cases h0 : l = []
  · subst h0
    obtain rfl : n = 0 := en
    clear hs Ll hz
    go_enter Tryd.func69, Tryd.ntmps69
    go_wp2
    go_ret
    exact ⟨ret_bool (by simp), rfl⟩
  · have hn0 : 0 < n := by rw [en]; exact List.length_pos_iff.2 h0
    obtain ⟨ad, c', e, hc', hb', hcell⟩ := hs.at_ 0 (by rw [← en]; omega)
    injection e with e1 e2 e3
    subst e1
    clear e2 e3 hc' c'
    have bz := Ll.at_ 0
    generalize l.getD 0 0 = y at *
    rw [show ad.add 0 = ad from rfl] at hcell
    have h1 : (n : Int) > 0 := by omega
    have i1 : IntKind.u32.wrap (y % 2) = y % 2 := IntWalk.u32_in _ (by omega)
    have e5 : (y % 2 == 1) = decide (y % 2 = 1) := rfl
    clear hs h0 Ll hz en
    go_enter Tryd.func69, Tryd.ntmps69
    go_wp2
    go_ret
    exact ⟨ret_bool (by first | rfl | simp), rfl⟩
theorem away_c (h m neg odd : Bool) (mode : Int) (w : World) : Calls Tryd.prog 68 #[.agg #[.bool h, .bool m], .bool neg, .bool odd, .int .i64 mode] w (DC.RetB w (.bool (up neg odd h m mode))) := by
  have D : Below w.heap.size w (w.alloc (.cells #[.bool h, .bool m] 96)) := (Below.refl _ _).alloc (Nat.le_refl _) _
  have D := Lib.hid D
  obtain ⟨r, hr⟩ : ∃ r, r = up neg odd h m mode := ⟨_, rfl⟩
  rw [← hr]
  unfold up at hr
  have HR := Lib.hid hr
  clear hr
  by_cases h1 : mode = 1
  · subst h1
    cases h <;> cases m
    all_goals
      go_enter Tryd.func68, Tryd.ntmps68
      go_wp2
      go_ret
      exact ⟨ret_bool (by rw [HR.out]; simp), D.out⟩
  · by_cases h2 : mode = 2
    · subst h2
      cases h <;> cases m
      all_goals
        go_enter Tryd.func68, Tryd.ntmps68
        go_wp2
        go_ret
        exact ⟨ret_bool (by rw [HR.out]; simp), D.out⟩
    · by_cases h3 : mode = 3
      · subst h3
        cases h <;> cases m
        all_goals
          go_enter Tryd.func68, Tryd.ntmps68
          go_wp2
          go_ret
          exact ⟨ret_bool (by rw [HR.out]; simp), D.out⟩
      · by_cases h0 : mode = 0
        · subst h0
          cases h <;> cases m <;> cases odd
          all_goals
            go_enter Tryd.func68, Tryd.ntmps68
            go_wp2
            go_ret
            exact ⟨ret_bool (by rw [HR.out]; simp), D.out⟩
        · have e1 : (mode == 1) = false := by simp [h1]
          have e2 : (mode == 2) = false := by simp [h2]
          have e3 : (mode == 3) = false := by simp [h3]
          have e0 : (mode == 0) = false := by simp [h0]
          have H : Hid (mode ≠ 0 ∧ mode ≠ 1 ∧ mode ≠ 2 ∧ mode ≠ 3) := ⟨h0, h1, h2, h3⟩
          clear h0 h1 h2 h3
          cases h <;> cases m
          all_goals
            go_enter Tryd.func68, Tryd.ntmps68
            go_wp2
            go_ret
            exact ⟨ret_bool (by obtain ⟨a, b, c, d⟩ := H.out; rw [HR.out]; simp [a, b, c, d]), D.out⟩
theorem or_limbs (a b : Int) (h0 : 0 ≤ a) (h1 : a < 4294967296) (h2 : 0 ≤ b) (h3 : b < 4294967296) : bits .or .u64 a (b * 4294967296) = a + b * 4294967296 := by
  rw [u64_or _ _ h0 (by omega) (by omega) (by omega), Nat.or_comm, nat_join 32 _ _ (by omega) (by omega)]
  omega
end RC
end Go.Proofs.YtpmpkllpaceloaaDoor

/-
  Package round: split.
-/
namespace Go.Proofs.YtpmpkllpaceloaaDoor
set_option linter.unusedVariables false
set_option linter.unusedSimpArgs false
open Go.RowKit
set_option linter.unusedVariables false
namespace RC
open L NC NK DC
open Z (Nz Tz cmpv)
theorem pow_12800 : (4294967296 : Int) ^ 400 = 2 ^ 12800 := by
  rw [show (4294967296 : Int) = 2 ^ 32 by decide, ← Int.pow_mul]
theorem pow2_le {a b : Nat} (h : a ≤ b) : (2 : Int) ^ a ≤ 2 ^ b := by
  obtain ⟨d, rfl⟩ : ∃ d, b = a + d := ⟨b - a, by omega⟩
  rw [Int.pow_add]
  have h1 := two_pos' a
  have h2 := two_pos' d
  have := Int.mul_le_mul_of_nonneg_left (show (1 : Int) ≤ 2 ^ d by omega) (Int.le_of_lt h1)
  omega
/-- moved far down: nothing stays -/
theorem sh_far {z k k' : Int} (h0 : 0 ≤ z) (hz : z < 4294967296 ^ 400) (h1 : k ≤ -20000) (h2 : k' ≤ -20000) : sh z k = sh z k' ∧ lo z k = lo z k' := by
  have key : ∀ k : Int, k ≤ -20000 → sh z k = 0 ∧ lo z k = decide (z ≠ 0) := fun k hk => by
    have hp : z < 2 ^ (-k).toNat := by
      rw [pow_12800] at hz
      exact Int.lt_of_lt_of_le hz (pow2_le (by omega))
    unfold sh lo
    rw [if_neg (by omega), if_neg (by omega), Int.ediv_eq_zero_of_lt h0 hp, Int.emod_eq_of_lt h0 hp]
    exact ⟨rfl, rfl⟩
  obtain ⟨a, b⟩ := key k h1
  obtain ⟨c, d⟩ := key k' h2
  exact ⟨a.trans c.symm, b.trans d.symm⟩
theorem sh_max {z n : Int} (h0 : 0 ≤ z) (hz : z < 4294967296 ^ 400) : sh z (max n (-20000)) = sh z n ∧ lo z (max n (-20000)) = lo z n := by
  by_cases h : -20000 ≤ n
  · rw [Int.max_eq_left h]; exact ⟨rfl, rfl⟩
  · rw [Int.max_eq_right (by omega)]; exact sh_far h0 hz (by omega) (by omega)
theorem Sh_c {u : Value} {z : Int} {w : World} (h : PV w u 0 z) (k : Int) (h1 : -20000 ≤ k) (h2 : k ≤ 20000) (hT : TabD w) : Calls Tryd.prog 73 #[u, .int .i64 k] w (RetSh w 0 (sh z k) (lo z k)) := by
  unfold sh lo
  by_cases h0 : 0 ≤ k
  · rw [if_pos h0, if_pos h0]
    obtain ⟨n, rfl⟩ := Int.eq_ofNat_of_zero_le h0
    rw [Int.toNat_natCast]
    exact sh_up h n (by omega)
  · rw [if_neg h0, if_neg h0]
    obtain ⟨n, hn⟩ := Int.eq_ofNat_of_zero_le (show 0 ≤ -k by omega)
    rw [hn, Int.toNat_natCast, show k = -(n : Int) by omega]
    exact sh_down h n (by omega) (by omega) hT
theorem Sh_one {u : Value} {z : Int} {w : World} (h : PV w u 0 z) (hT : TabD w) : Calls Tryd.prog 73 #[u, .int .i64 (-1)] w (RetSh w 0 (z / 2) (decide (z % 2 = 1))) := by
  have := sh_down h 1 (by omega) (by omega) hT
  have e : decide (z % 2 ^ 1 ≠ 0) = decide (z % 2 = 1) := by apply decide_eq_decide.2; omega
  rw [e, show z / 2 ^ 1 = z / 2 by omega] at this
  exact this
theorem nv_set2 {w1 : World} {v : Value} {z : Int} {B : Nat} {x0 x1 : Bool} (hv : NV w1 v z) (hblk : Blk w1 B 96 #[.bool x0, .bool x1]) (v0 v1 : Value) :
    NV ((w1.setCell ⟨B, 0, none⟩ v0).setCell ⟨B, 1, none⟩ v1) v z := by
  have s1 := nv_set hv (hblk.at_ 0 rfl) (fun z h => by cases h) v0
  have B1 := hblk.set_ 0 v0
  exact nv_set s1 (u := .bool x1) (B1.at_ 1 (by simp)) (fun z h => by cases h) v1
theorem below2 {w w1 : World} {B : Nat} (hb : Below w.heap.size w w1) (hB : w.heap.size ≤ B) (v0 v1 : Value) : Below w.heap.size w ((w1.setCell ⟨B, 0, none⟩ v0).setCell ⟨B, 1, none⟩ v1) :=
  (hb.setCell hB _).setCell hB _
theorem res2 (w : World) : ∃ W0, w.alloc (.cells #[.bool false, .bool false] 96) = W0 ∧ Below w.heap.size w W0 ∧ W0.heap.size = w.heap.size + 1 ∧
    (∀ W, Below W0.heap.size W0 W → Blk W w.heap.size 96 #[.bool false, .bool false]) :=
  ⟨_, rfl, (Below.refl _ _).alloc (Nat.le_refl _) _, by simp, fun W h => (Blk.new w _ _).below h (Blk.new w 96 #[.bool false, .bool false]).lt⟩
/-- what split tells -/
def RetSp (w : World) (q : Int) (h m : Bool) (e : Ending) (w' : World) : Prop := ∃ A n c, e = .returned (.tuple #[.slice A n c, .agg #[.bool h, .bool m]]) ∧ NV w' (.slice A n c) q ∧ Below w.heap.size w w'
theorem split_c (u : Value) (z n : Int) (w : World) (h : PV w u 0 z) (h1 : -50000 ≤ n) (h2 : n ≤ 19999) (hs : sh z (n + 1) < 4294967296 ^ 400) (hT : TabD w) :
    Calls Tryd.prog 67 #[u, .int .i64 n] w (RetSp w (sh z (n + 1) / 2) (decide (sh z (n + 1) % 2 = 1)) (lo z (n + 1))) := by
  have sm := h.small
  obtain ⟨W0, hW0, D0, ZS, KB⟩ := res2 w
  have e := sh_max (n := n + 1) sm.1 (sm.2 rfl)
  have hp := sh_pos sm.1 (n + 1)
  have i1 : IntKind.i64.wrap (n + 1) = n + 1 := IntWalk.i64_in _ (by omega)
  have S1 : Hid (Calls Tryd.prog 73 #[u, .int .i64 (max (n + 1) (-20000))] W0 (RetSh W0 0 (sh z (n + 1)) (lo z (n + 1)))) := by
    have := Sh_c (h.below D0) (max (n + 1) (-20000)) (by omega) (by omega) (hT.below D0)
    rwa [e.1, e.2] at this
  generalize sh z (n + 1) = H at *
  generalize lo z (n + 1) = m at *
  have S2 : Hid (∀ (W : World) (v : Value), Below W0.heap.size W0 W → NV W v H → Calls Tryd.prog 73 #[v, .int .i64 (-1)] W (RetSh W 0 (H / 2) (decide (H % 2 = 1)))) := fun W v hW hv => by
    have hq := hv.pv (Int.lt_of_lt_of_le hs p400_big)
    rw [show erz H = 0 from if_pos hs] at hq
    exact Sh_one hq ((hT.below D0).below hW)
  obtain ⟨hb, hhb⟩ : ∃ b, decide (H % 2 = 1) = b := ⟨_, rfl⟩
  rw [hhb] at S2 ⊢
  have KB := Lib.hid KB
  have D0 := Lib.hid D0
  have HW0 := Lib.hid hW0
  obtain ⟨k, hk⟩ : ∃ k : Int, max (n + 1) (-20000) = k := ⟨_, rfl⟩
  have HK : Hid (max (n + 1) (-20000) = k) := hk
  clear h h1 hs hT sm e hp hW0 hhb ZS
  rw [hk] at S1
  by_cases hc : -20000 ≤ n + 1
  · have e1 : max (n + 1) (-20000) = n + 1 := Int.max_eq_left hc
    have e2 : k = n + 1 := hk.symm.trans e1
    rw [e2] at S1
    clear hk e2
    go_enter Tryd.func67, Tryd.ntmps67
    go_wp2_with (first
      | (go_at_call 73; rw [HW0.out]; (with_reducible refine (S1.out).mono ?_); rintro e w2 ⟨A2, n2, c2, rfl, hv2, hb2⟩; have D2 := Lib.hid hb2)
      | (go_at_call 73; (with_reducible refine (S2.out _ _ D2.out hv2).mono ?_); rintro e w3 ⟨A3, n3, c3, rfl, hv3, hb3⟩; have D3 := Lib.hid (D2.out.trans (hb3.mono D2.out.size)); have R2 := KB.out _ D3.out; have t0 := R2.at_ 0 rfl; have t1 := R2.at_ 1 rfl; have f0 := R2.frozen 0; have f1 := R2.frozen 1; have R2 := Lib.hid R2))
    exact bodyPost_ret (v := .tuple #[.slice A3 n3 c3, .agg #[.bool hb, .bool m]]) (by simp [results, Tryd.results67, go_sem, t0, t1]) rfl
      ⟨_, _, _, rfl, nv_set2 hv3 R2.out _ _, below2 (D0.out.trans (D3.out.mono D0.out.size)) (Nat.le_refl _) _ _⟩
  · have e1 : max (n + 1) (-20000) = -20000 := Int.max_eq_right (by omega)
    have e2 : k = -20000 := hk.symm.trans e1
    rw [e2] at S1
    clear hk e2
    go_enter Tryd.func67, Tryd.ntmps67
    go_wp2_with (first
      | (go_at_call 73; rw [HW0.out]; (with_reducible refine (S1.out).mono ?_); rintro e w2 ⟨A2, n2, c2, rfl, hv2, hb2⟩; have D2 := Lib.hid hb2)
      | (go_at_call 73; (with_reducible refine (S2.out _ _ D2.out hv2).mono ?_); rintro e w3 ⟨A3, n3, c3, rfl, hv3, hb3⟩; have D3 := Lib.hid (D2.out.trans (hb3.mono D2.out.size)); have R2 := KB.out _ D3.out; have t0 := R2.at_ 0 rfl; have t1 := R2.at_ 1 rfl; have f0 := R2.frozen 0; have f1 := R2.frozen 1; have R2 := Lib.hid R2))
    exact bodyPost_ret (v := .tuple #[.slice A3 n3 c3, .agg #[.bool hb, .bool m]]) (by simp [results, Tryd.results67, go_sem, t0, t1]) rfl
      ⟨_, _, _, rfl, nv_set2 hv3 R2.out _ _, below2 (D0.out.trans (D3.out.mono D0.out.size)) (Nat.le_refl _) _ _⟩
end RC
end Go.Proofs.YtpmpkllpaceloaaDoor

/-
  Package round: a word.
-/
namespace Go.Proofs.YtpmpkllpaceloaaDoor
set_option linter.unusedVariables false
set_option linter.unusedSimpArgs false
open Go.RowKit
set_option linter.unusedVariables false
namespace RC
open L NC NK DC
open Z (Nz Tz cmpv)
theorem or_0 (a : Int) (h0 : 0 ≤ a) (h1 : a < 4294967296) : bits .or .u64 0 a = a := by
  rw [u64_or _ _ (by omega) (by omega) h0 (by omega), show (0 : Int).toNat = 0 from rfl, Nat.zero_or]
  omega
theorem word_c (A : Option Addr) (n c : Nat) (z : Int) (w : World) (hv : NV w (.slice A n c) z) (hz : z < 18446744073709551616) : Calls Tryd.prog 107 #[.slice A n c] w (fun e w' => e = .returned (.int .u64 z) ∧ w = w') := by
  obtain ⟨l, hs, Ll, nl, hl⟩ := hv
  obtain ⟨en, hc⟩ := hs.len_
  have h2 : l.length ≤ 2 := len_le Ll nl (by rw [hl]; exact hz)
  match l, en, h2 with
  | [], en, _ =>
    simp only [lv] at hl
    subst hl
    obtain rfl : n = 0 := en
    clear hs Ll nl hz h2 hc
    go_enter Tryd.func107, Tryd.ntmps107
    go_wp2
    go_loop [8, 3] (fun v u => v = .int .i64 0 ∧ u = .int .u64 0) (fun _ _ => 0)
    case atStart => exact ⟨rfl, rfl⟩
    case round =>
      obtain ⟨rfl, rfl⟩ := hrel
      go_wp2
      go_ret
      exact ⟨rfl, rfl⟩
  | [a], en, _ =>
    have hz1 : a = z := by rw [← hl]; simp [lv]
    subst hz1
    obtain rfl : n = 1 := en
    obtain ⟨ad, c', e, hc', hb', hcell⟩ := hs.at_ 0 (by simp)
    injection e with e1 e2 e3
    subst e1
    rw [show ad.add 0 = ad from rfl, show [a].getD 0 0 = a from rfl] at hcell
    have ha := Ll a (by simp)
    have HO := Lib.hid (or_0 a ha.1 ha.2)
    clear hs Ll nl hz h2 e2 e3 hc' hb' hl
    go_enter Tryd.func107, Tryd.ntmps107
    go_wp2
    go_loop [8, 3] (fun v u => (v = .int .i64 0 ∧ u = .int .u64 0) ∨ (v = .int .i64 1 ∧ u = .int .u64 a)) (fun v _ => (1 - intOf v).toNat)
    case atStart => exact .inl ⟨rfl, rfl⟩
    case round =>
      rcases hrel with ⟨rfl, rfl⟩ | ⟨rfl, rfl⟩
      · go_wp2
        rw [HO.out]
        exact ⟨.inr ⟨rfl, rfl⟩, by simp [intOf]⟩
      · go_wp2
        go_ret
        exact ⟨rfl, rfl⟩
  | [a, b], en, _ =>
    have hz1 : a + b * 4294967296 = z := by rw [← hl]; simp [lv]; omega
    obtain rfl : n = 2 := en
    obtain ⟨ad, c', e, hc', hb', hcell⟩ := hs.at_ 0 (by simp)
    injection e with e1 e2 e3
    subst e1
    rw [show ad.add 0 = ad from rfl, show [a, b].getD 0 0 = a from rfl] at hcell
    obtain ⟨ad2, c', e, hc', hb', hcell2⟩ := hs.at_ 1 (by simp)
    injection e with e1 e2 e3
    injection e1 with e1
    subst e1
    rw [show [a, b].getD 1 0 = b from rfl] at hcell2
    have hcell3 : w.cell? { block := ad.block, off := ad.off + 1 } = some (.int .u32 b) := by simpa [Addr.add] using hcell2
    have ha := Ll a (by simp)
    have hb := Ll b (by simp)
    have HO := Lib.hid (or_0 a ha.1 ha.2)
    have HJ := Lib.hid (or_limbs a b ha.1 ha.2 hb.1 hb.2)
    have HZ := Lib.hid hz1
    clear hs Ll nl hz h2 e2 e3 hc' hb' hl hz1
    go_enter Tryd.func107, Tryd.ntmps107
    go_wp2
    go_loop [8, 3] (fun v u => (v = .int .i64 0 ∧ u = .int .u64 0) ∨ (v = .int .i64 1 ∧ u = .int .u64 a) ∨ (v = .int .i64 2 ∧ u = .int .u64 z)) (fun v _ => (2 - intOf v).toNat)
    case atStart => exact .inl ⟨rfl, rfl⟩
    case round =>
      rcases hrel with ⟨rfl, rfl⟩ | ⟨rfl, rfl⟩ | ⟨rfl, rfl⟩
      · go_wp2
        rw [HO.out]
        exact ⟨.inr (.inl ⟨rfl, rfl⟩), by simp [intOf]⟩
      · go_wp2
        rw [HJ.out, HZ.out]
        exact ⟨.inr (.inr ⟨rfl, rfl⟩), by simp [intOf]⟩
      · go_wp2
        go_ret
        exact ⟨rfl, rfl⟩
end RC
end Go.Proofs.YtpmpkllpaceloaaDoor

