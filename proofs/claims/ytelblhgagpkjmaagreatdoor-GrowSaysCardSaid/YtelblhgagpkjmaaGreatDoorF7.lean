/-
  Texts glued together for a claim: D5 D6 D7 D8 D9 D10 D11 D12 Pure1 FloatC D13 D14 D15 NIn DK0 R1 R2 R3.
-/
import Derived.Test.YtelblhgagpkjmaaGreatDoorF6
import Derived.Test.YtelblhgagpkjmaaGreatDoorF1
import Derived.Test.YtelblhgagpkjmaaGreatDoorF4
import Derived.Laws.BitsAllLaws
import Derived.Test.YtelblhgagpkjmaaGreatDoorProg
import Derived.WalkKit
import Derived.WalkLawsBesides
import Derived.Lib.Hide
/-
  Package dyad: addSizes.
-/
namespace Go.Proofs.YtelblhgagpkjmaaGreatDoor
set_option linter.unusedVariables false
set_option linter.unusedSimpArgs false
open Go.RowKit
set_option linter.unusedVariables false
namespace DC
open L NC NK
open Z (Nz Tz cmpv)
theorem p400_pos : (0 : Int) < 4294967296 ^ 400 := pow_pos 400
theorem p400_big : (4294967296 : Int) ^ 400 ≤ big3 := by unfold big3; exact pow_mono (by decide)
theorem p401_big : 8 * (4294967296 : Int) ^ 400 ≤ big3 := by
  have h1 : (4294967296 : Int) ^ 401 ≤ big3 := by unfold big3; exact pow_mono (by decide)
  have h2 : (4294967296 : Int) ^ 401 = 4294967296 ^ 400 * 4294967296 := Int.pow_succ _ _
  have := p400_pos
  generalize (4294967296 : Int) ^ 401 = c401 at *
  generalize (4294967296 : Int) ^ 400 = c400 at *
  omega
/-- both numbers in units of the lesser exponent's double -/
def Al (a b x1 x2 A B S1 S2 : Int) : Prop :=
  (0 ≤ A ∧ A < big3 ∧ 0 ≤ B ∧ B < big3) ∧
  ((x1 = x2 ∧ S1 = 2 * A + 1 ∧ S2 = 2 * B + 1 ∧ A < 4294967296 ^ 400 ∧ B < 4294967296 ^ 400 ∧ S1 < 4294967296 ^ 400 ∧ S2 < 4294967296 ^ 400) ∨
   (x2 < x1 ∧ S1 = 2 * A ∧ S2 = 2 * B + 1 ∧ B < 4294967296 ^ 400 ∧ S2 < 4294967296 ^ 400) ∨ (x1 < x2 ∧ S1 = 2 * A + 1 ∧ S2 = 2 * B ∧ A < 4294967296 ^ 400 ∧ S1 < 4294967296 ^ 400))
theorem al_of {a b x1 x2 : Int} (ha : a % 2 = 1) (hb : b % 2 = 1) (a0 : 0 < a) (b0 : 0 < b) (a1 : a < 4294967296 ^ 400) (b1 : b < 4294967296 ^ 400) (y1 : -10000 ≤ x1 ∧ x1 ≤ 10000) (y2 : -10000 ≤ x2 ∧ x2 ≤ 10000) :
    Al a b x1 x2 (shq a (x1 - (min x1 x2 + 1))) (shq b (x2 - (min x1 x2 + 1))) (a * 2 ^ (x1 - min x1 x2).toNat) (b * 2 ^ (x2 - min x1 x2).toNat) := by
  unfold Al
  have P := p400_pos
  have Q := p400_big
  rcases Int.lt_trichotomy x1 x2 with h | h | h
  · obtain ⟨p, hp⟩ : ∃ p : Nat, (p : Int) = x2 - x1 - 1 := ⟨(x2 - x1 - 1).toNat, by omega⟩
    rw [show min x1 x2 = x1 by omega, show x1 - (x1 + 1) = -1 by omega, shq_one, show x2 - (x1 + 1) = (p : Int) by omega, shq_up, show (x1 - x1).toNat = 0 by omega, show (x2 - x1).toNat = p + 1 by omega]
    have hs := shift_small b1 (Int.le_of_lt b0) (show p ≤ 20001 by omega)
    have hm := Int.mul_pos b0 (two_pos' p)
    rw [Int.pow_succ, ← Int.mul_assoc]
    rw [Int.pow_zero, Int.mul_one]
    generalize b * 2 ^ p = B at *
    generalize (4294967296 : Int) ^ 400 = c400 at *
    refine ⟨by omega, .inr (.inr ⟨h, by omega, by omega, by omega, by omega⟩)⟩
  · subst h
    rw [show min x1 x1 = x1 by omega, show x1 - (x1 + 1) = -1 by omega, shq_one, shq_one, show (x1 - x1).toNat = 0 by omega, Int.pow_zero, Int.mul_one, Int.mul_one]
    generalize (4294967296 : Int) ^ 400 = c400 at *
    refine ⟨by omega, .inl ⟨rfl, by omega, by omega, by omega, by omega, by omega, by omega⟩⟩
  · obtain ⟨p, hp⟩ : ∃ p : Nat, (p : Int) = x1 - x2 - 1 := ⟨(x1 - x2 - 1).toNat, by omega⟩
    rw [show min x1 x2 = x2 by omega, show x2 - (x2 + 1) = -1 by omega, shq_one, show x1 - (x2 + 1) = (p : Int) by omega, shq_up, show (x2 - x2).toNat = 0 by omega, show (x1 - x2).toNat = p + 1 by omega]
    have hs := shift_small a1 (Int.le_of_lt a0) (show p ≤ 20001 by omega)
    have hm := Int.mul_pos a0 (two_pos' p)
    rw [Int.pow_succ, ← Int.mul_assoc]
    rw [Int.pow_zero, Int.mul_one]
    generalize a * 2 ^ p = A at *
    generalize (4294967296 : Int) ^ 400 = c400 at *
    refine ⟨by omega, .inr (.inl ⟨h, by omega, by omega, by omega, by omega⟩)⟩
/-- behind two boxes and the result's cell -/
theorem box3 (w : World) (b1 b2 : Bool) (A1 A2 : Option Addr) (n1 c1 n2 c2 : Nat) (x1 x2 : Int) :
    ∃ W0, ((w.alloc (.cells #[.bool b1, .slice A1 n1 c1, .int .i64 x1] 26)).alloc (.cells #[.bool b2, .slice A2 n2 c2, .int .i64 x2] 26)).alloc (.cells #[.bool false, .slice none 0 0, .int .i64 0] 26) = W0 ∧ Below w.heap.size w W0 ∧
    (∀ W, Below W0.heap.size W0 W → (BX W w.heap.size b1 A1 n1 c1 x1 ∧ BX W (w.heap.size + 1) b2 A2 n2 c2 x2) ∧ Blk W (w.heap.size + 2) 26 #[.bool false, .slice none 0 0, .int .i64 0]) := by
  obtain ⟨N1, N2, N3, NS, NB⟩ := new3 w 26 26 26 #[.bool b1, .slice A1 n1 c1, .int .i64 x1] #[.bool b2, .slice A2 n2 c2, .int .i64 x2] #[.bool false, .slice none 0 0, .int .i64 0] 0
  rw [World.drewN_zero] at N1 N2 N3 NS NB
  exact ⟨_, rfl, NB, fun W h => ⟨⟨BX.of (N1.below h N1.lt), BX.of (N2.below h N2.lt)⟩, N3.below h N3.lt⟩⟩
theorem gv_odd {w : World} {b A n c x d} (h : GV w b A n c x d) (h0 : d.m ≠ 0) : (d.m.natAbs : Int) % 2 = 1 ∧ 0 < (d.m.natAbs : Int) ∧ (d.m.natAbs : Int) < 4294967296 ^ 400 ∧ d.m = sgm b d.m.natAbs := by
  obtain ⟨-, hb, -, -, hc, hi⟩ := h
  unfold can at hc
  unfold inb at hi
  generalize (4294967296 : Int) ^ 400 = c400 at *
  refine ⟨by omega, by omega, by omega, ?_⟩
  rw [hb]; unfold sgm
  by_cases h : d.m < 0 <;> simp [h] <;> omega
theorem sg_add (b : Bool) (y z : Int) : sgm b y + sgm b z = sgm b (y + z) := by cases b <;> simp [sgm] <;> omega
theorem sg_mul (b : Bool) (y z : Int) : sgm b y * z = sgm b (y * z) := by cases b <;> simp [sgm, Int.neg_mul]
theorem sg_not (b : Bool) (y : Int) : sgm (!b) y = - sgm b y := by cases b <;> simp [sgm]
theorem fin_two (b : Bool) (m x : Int) : fin (sgm b (2 * m)) x = fin (sgm b m) (x + 1) := by
  have h := fin_shift (sgm b m) x 1
  rw [show x + ((1 : Nat) : Int) = x + 1 from rfl] at h
  rw [← h]
  congr 1
  cases b <;> simp [sgm] <;> omega
set_option maxRecDepth 100000 in
theorem addSizes_c (b : Bool) (A1 A2 : Option Addr) (n1 c1 n2 c2 : Nat) (x1 x2 : Int) (d1 d2 : Dy) (w : World) (h1 : GV w b A1 n1 c1 x1 d1) (h2 : GV w b A2 n2 c2 x2 d2) (k1 : d1.m ≠ 0) (k2 : d2.m ≠ 0) (hT : TabD w) :
    Calls Tryz.prog 68 #[.agg #[.bool b, .slice A1 n1 c1, .int .i64 x1], .agg #[.bool b, .slice A2 n2 c2, .int .i64 x2]] w (RetD w (sum d1 d2)) := by
  obtain ⟨o1, p1, s1, g1⟩ := gv_odd h1 k1
  obtain ⟨o2, p2, s2, g2⟩ := gv_odd h2 k2
  have e1 : x1 = d1.x := h1.2.2.1
  have e2 : x2 = d2.x := h2.2.2.1
  have y1 := h1.2.2.2.2.2.2.2
  have y2 := h2.2.2.2.2.2.2.2
  rw [← e1] at y1
  rw [← e2] at y2
  have AL := al_of o1 o2 p1 p2 s1 s2 y1 y2
  have AC := align_c b b A1 A2 n1 c1 n2 c2 x1 x2 d1 d2 (min x1 x2 + 1)
  rw [← e1, ← e2] at AC
  have ER : sum d1 d2 = fin (sgm b ((d1.m.natAbs : Int) * 2 ^ (x1 - min x1 x2).toNat + (d2.m.natAbs : Int) * 2 ^ (x2 - min x1 x2).toNat)) (min x1 x2) := by
    unfold sum lv2
    rw [← e1, ← e2, ← sg_add, ← sg_mul, ← sg_mul, ← g1, ← g2, Int.min_comm x2 x1]
  obtain ⟨W0, hW0, D0, KB⟩ := box3 w b b A1 A2 n1 c1 n2 c2 x1 x2
  have AC : ∀ W, Below W0.heap.size W0 W → _ := fun W hW => AC W ((h1.below D0).below hW) ((h2.below D0).below hW) (by omega) (by omega) (by omega) ((hT.below D0).below hW)
  have HT : Hid (∀ W, Below W0.heap.size W0 W → TabD W) := fun W hW => (hT.below D0).below hW
  generalize shq (d1.m.natAbs : Int) (x1 - (min x1 x2 + 1)) = A at *
  generalize shq (d2.m.natAbs : Int) (x2 - (min x1 x2 + 1)) = B at *
  generalize (d1.m.natAbs : Int) * 2 ^ (x1 - min x1 x2).toNat = S1 at *
  generalize (d2.m.natAbs : Int) * 2 ^ (x2 - min x1 x2).toNat = S2 at *
  generalize sum d1 d2 = r at *
  have AC := Lib.hid AC
  have KB := Lib.hid KB
  have D0 := Lib.hid D0
  have HW0 := Lib.hid hW0
  obtain ⟨E, hE⟩ : ∃ E, E = min x1 x2 := ⟨_, rfl⟩
  have i1 : IntKind.i64.wrap (min x1 x2 + 1) = min x1 x2 + 1 := IntWalk.i64_in _ (by omega)
  obtain ⟨⟨A0, AB, B0, BB⟩, AL⟩ := AL
  have OF : Hid (∀ W, Calls Tryz.prog 72 #[.int .u64 1] W (RetV W 1)) := fun W => Of_c 1 W (by omega)
  have P1 := p401_big
  have P4 := p400_pos
  clear hW0 h1 h2 o1 o2 p1 p2 s1 s2 g1 g2 e1 e2 k1 k2 hT
  rcases AL with ⟨hx, q1, q2, q3, q4, q5, q6⟩ | AL
  · have AD : Hid (∀ W A3 n3 c3 A4 n4 c4, NV W (.slice A3 n3 c3) A → NV W (.slice A4 n4 c4) B → Calls Tryz.prog 87 #[.slice A3 n3 c3, .slice A4 n4 c4] W (RetP W 0 (A + B))) := fun W A3 n3 c3 A4 n4 c4 g1 g2 => by
      have q1 := g1.pv AB
      have q2 := g2.pv BB
      rw [show erz A = 0 from if_pos q3] at q1
      rw [show erz B = 0 from if_pos q4] at q2
      exact Add_p q1 q2
    have A1' : Hid (∀ W A3 n3 c3 A4 n4 c4, NV W (.slice A3 n3 c3) (A + B) → NV W (.slice A4 n4 c4) 1 → Calls Tryz.prog 87 #[.slice A3 n3 c3, .slice A4 n4 c4] W (RetP W 0 (A + B + 1))) := fun W A3 n3 c3 A4 n4 c4 g1 g2 => by
      have hab : A + B < 4294967296 ^ 400 := by omega
      have q1 := g1.pv (by omega)
      rw [show erz (A + B) = 0 from if_pos hab] at q1
      have q2 := g2.pv (small_big (by decide))
      rw [erz0 (by decide)] at q2
      exact Add_p q1 q2
    have FN : Hid (∀ W A3 n3 c3, Below W0.heap.size W0 W → NV W (.slice A3 n3 c3) (A + B + 1) → Calls Tryz.prog 67 #[.bool b, .slice A3 n3 c3, .int .i64 (min x1 x2 + 1)] W (RetD W r)) := fun W A3 n3 c3 hW g => by
      rw [ER, show S1 + S2 = 2 * (A + B + 1) by omega, fin_two]
      exact finish_any b A3 n3 c3 _ _ W g (by omega) (by omega) (.inl (by omega)) (HT.out W hW)
    have hx' : (x1 == x2) = true := by simp [hx]
    clear ER q1 q2 q3 q4 q5 q6 A0 AB B0 BB P1 P4 y1 y2 hx
    go_enter Tryz.func68, Tryz.ntmps68
    go_wp2_with (first
      | (go_at_call 86; rw [HW0.out]; (with_reducible refine (AC.out _ (Below.refl _ _)).mono ?_); rintro e w2 ⟨A3, n3, c3, A4, n4, c4, rfl, hv3, hv4, hb2⟩; have D := Lib.hid hb2; obtain ⟨⟨⟨p0, p1, p2⟩, q0, q1, q2⟩, R2⟩ := KB.out _ D.out; have t0 := R2.at_ 0 rfl; have t1 := R2.at_ 1 rfl; have t2 := R2.at_ 2 rfl; have f0 := R2.frozen 0; have f1 := R2.frozen 1; have f2 := R2.frozen 2; have R2 := Lib.hid R2)
      | (go_at_call 87; (with_reducible refine (AD.out _ _ _ _ _ _ _ hv3 hv4).mono ?_); rintro e w3 ⟨A5, n5, c5, rfl, hp5, hs5, hbb⟩; have D := Lib.hid (D.out.trans (hbb.mono D.out.size)); obtain ⟨⟨⟨p0, p1, p2⟩, q0, q1, q2⟩, R2⟩ := KB.out _ D.out; have t0 := R2.at_ 0 rfl; have t1 := R2.at_ 1 rfl; have t2 := R2.at_ 2 rfl; have f0 := R2.frozen 0; have f1 := R2.frozen 1; have f2 := R2.frozen 2; have R2 := Lib.hid R2)
      | (go_at_call 72; (with_reducible refine (OF.out _).mono ?_); rintro e w4 ⟨A6, n6, c6, rfl, ho6, hbb⟩; have hs5 := hs5.below hbb; have D := Lib.hid (D.out.trans (hbb.mono D.out.size)); obtain ⟨⟨⟨p0, p1, p2⟩, q0, q1, q2⟩, R2⟩ := KB.out _ D.out; have t0 := R2.at_ 0 rfl; have t1 := R2.at_ 1 rfl; have t2 := R2.at_ 2 rfl; have f0 := R2.frozen 0; have f1 := R2.frozen 1; have f2 := R2.frozen 2; have R2 := Lib.hid R2)
      | (go_at_call 87; (with_reducible refine (A1'.out _ _ _ _ _ _ _ hs5 ho6).mono ?_); rintro e w5 ⟨A7, n7, c7, rfl, hp7, hs7, hbb⟩; have D := Lib.hid (D.out.trans (hbb.mono D.out.size)); obtain ⟨⟨⟨p0, p1, p2⟩, q0, q1, q2⟩, R2⟩ := KB.out _ D.out; have t0 := R2.at_ 0 rfl; have t1 := R2.at_ 1 rfl; have t2 := R2.at_ 2 rfl; have f0 := R2.frozen 0; have f1 := R2.frozen 1; have f2 := R2.frozen 2; have R2 := Lib.hid R2)
      | (go_at_call 67; (with_reducible refine (FN.out _ _ _ _ D.out hs7).mono ?_); rintro e w6 ⟨bb, A5, n5, c5, x5, rfl, hv5, hbb⟩; have D := Lib.hid (D.out.trans (hbb.mono D.out.size)); obtain ⟨⟨⟨p0, p1, p2⟩, q0, q1, q2⟩, R2⟩ := KB.out _ D.out; have t0 := R2.at_ 0 rfl; have t1 := R2.at_ 1 rfl; have t2 := R2.at_ 2 rfl; have f0 := R2.frozen 0; have f1 := R2.frozen 1; have f2 := R2.frozen 2; have R2 := Lib.hid R2))
    exact bodyPost_ret (v := .tuple #[.agg #[.bool bb, .slice A5 n5 c5, .int .i64 x5], .int .i64 r.e]) (by simp [results, Tryz.results68, go_sem, t0, t1, t2]) rfl
          ⟨_, _, _, _, _, rfl, hv5.set3 R2.out _ _ _ (by intro z h; cases h) (by intro z h; cases h), below3 (D0.out.trans (D.out.mono D0.out.size)) (by omega) _ _ _⟩
  · have hS : S1 + S2 = 2 * (A + B) + 1 := by rcases AL with h | h <;> omega
    have hx' : (x1 == x2) = false := by simp; omega
    rw [hS] at ER
    clear AL hS
    by_cases h2 : A < 4294967296 ^ 400 ∧ B < 4294967296 ^ 400
    · have AD : Hid (∀ W A3 n3 c3 A4 n4 c4, NV W (.slice A3 n3 c3) A → NV W (.slice A4 n4 c4) B → Calls Tryz.prog 87 #[.slice A3 n3 c3, .slice A4 n4 c4] W (RetP W 0 (A + B))) := fun W A3 n3 c3 A4 n4 c4 g1 g2 => by
        have q1 := g1.pv AB
        have q2 := g2.pv BB
        rw [show erz A = 0 from if_pos h2.1] at q1
        rw [show erz B = 0 from if_pos h2.2] at q2
        exact Add_p q1 q2
      have FN : Hid (∀ W A3 n3 c3, Below W0.heap.size W0 W → NV W (.slice A3 n3 c3) (A + B) → Calls Tryz.prog 88 #[.bool b, .slice A3 n3 c3, .int .i64 (min x1 x2)] W (RetD W r)) := fun W A3 n3 c3 hW g => by
        rw [ER]
        exact finishHalf_c b A3 n3 c3 _ _ W g (by omega) (by omega) (HT.out W hW)
      clear ER h2 A0 AB B0 BB P1 P4 y1 y2
      go_enter Tryz.func68, Tryz.ntmps68
      go_wp2_with (first
        | (go_at_call 86; rw [HW0.out]; (with_reducible refine (AC.out _ (Below.refl _ _)).mono ?_); rintro e w2 ⟨A3, n3, c3, A4, n4, c4, rfl, hv3, hv4, hb2⟩; have D := Lib.hid hb2; obtain ⟨⟨⟨p0, p1, p2⟩, q0, q1, q2⟩, R2⟩ := KB.out _ D.out; have t0 := R2.at_ 0 rfl; have t1 := R2.at_ 1 rfl; have t2 := R2.at_ 2 rfl; have f0 := R2.frozen 0; have f1 := R2.frozen 1; have f2 := R2.frozen 2; have R2 := Lib.hid R2)
        | (go_at_call 87; (with_reducible refine (AD.out _ _ _ _ _ _ _ hv3 hv4).mono ?_); rintro e w3 ⟨A5, n5, c5, rfl, hp5, hs5, hbb⟩; have D := Lib.hid (D.out.trans (hbb.mono D.out.size)); obtain ⟨⟨⟨p0, p1, p2⟩, q0, q1, q2⟩, R2⟩ := KB.out _ D.out; have t0 := R2.at_ 0 rfl; have t1 := R2.at_ 1 rfl; have t2 := R2.at_ 2 rfl; have f0 := R2.frozen 0; have f1 := R2.frozen 1; have f2 := R2.frozen 2; have R2 := Lib.hid R2)
        | (go_at_call 88; (with_reducible refine (FN.out _ _ _ _ D.out hs5).mono ?_); rintro e w6 ⟨bb, A5, n5, c5, x5, rfl, hv5, hbb⟩; have D := Lib.hid (D.out.trans (hbb.mono D.out.size)); obtain ⟨⟨⟨p0, p1, p2⟩, q0, q1, q2⟩, R2⟩ := KB.out _ D.out; have t0 := R2.at_ 0 rfl; have t1 := R2.at_ 1 rfl; have t2 := R2.at_ 2 rfl; have f0 := R2.frozen 0; have f1 := R2.frozen 1; have f2 := R2.frozen 2; have R2 := Lib.hid R2))
      exact bodyPost_ret (v := .tuple #[.agg #[.bool bb, .slice A5 n5 c5, .int .i64 x5], .int .i64 r.e]) (by simp [results, Tryz.results68, go_sem, t0, t1, t2]) rfl
          ⟨_, _, _, _, _, rfl, hv5.set3 R2.out _ _ _ (by intro z h; cases h) (by intro z h; cases h), below3 (D0.out.trans (D.out.mono D0.out.size)) (by omega) _ _ _⟩
    · have AD : Hid (∀ W A3 n3 c3 A4 n4 c4, NV W (.slice A3 n3 c3) A → NV W (.slice A4 n4 c4) B → Calls Tryz.prog 87 #[.slice A3 n3 c3, .slice A4 n4 c4] W (RetP W 2 0)) := fun W A3 n3 c3 A4 n4 c4 g1 g2 => by
        have q1 := g1.pv AB
        have q2 := g2.pv BB
        have h := Add_p q1 q2
        have e : ee (erz A) (erz B) = 2 := by
          unfold ee erz
          generalize (4294967296 : Int) ^ 400 = c400 at *
          by_cases h3 : A < c400
          · by_cases h4 : B < c400
            · exact absurd ⟨h3, h4⟩ h2
            · simp [h3, h4]
          · simp [h3]
        rw [e] at h
        exact h
      rw [fin_big (by omega) (by omega)] at ER
      rw [ER]
      clear ER h2 A0 AB B0 BB P1 P4 y1 y2
      go_enter Tryz.func68, Tryz.ntmps68
      go_wp2_with (first
        | (go_at_call 86; rw [HW0.out]; (with_reducible refine (AC.out _ (Below.refl _ _)).mono ?_); rintro e w2 ⟨A3, n3, c3, A4, n4, c4, rfl, hv3, hv4, hb2⟩; have D := Lib.hid hb2; obtain ⟨⟨⟨p0, p1, p2⟩, q0, q1, q2⟩, R2⟩ := KB.out _ D.out; have t0 := R2.at_ 0 rfl; have t1 := R2.at_ 1 rfl; have t2 := R2.at_ 2 rfl; have f0 := R2.frozen 0; have f1 := R2.frozen 1; have f2 := R2.frozen 2; have R2 := Lib.hid R2)
        | (go_at_call 87; (with_reducible refine (AD.out _ _ _ _ _ _ _ hv3 hv4).mono ?_); rintro e w3 ⟨A5, n5, c5, rfl, hp5, hs5, hbb⟩; have D := Lib.hid (D.out.trans (hbb.mono D.out.size)); obtain ⟨⟨⟨p0, p1, p2⟩, q0, q1, q2⟩, R2⟩ := KB.out _ D.out; have t0 := R2.at_ 0 rfl; have t1 := R2.at_ 1 rfl; have t2 := R2.at_ 2 rfl; have f0 := R2.frozen 0; have f1 := R2.frozen 1; have f2 := R2.frozen 2; have R2 := Lib.hid R2))
      exact bodyPost_ret (v := .tuple #[.agg #[.bool false, .slice none 0 0, .int .i64 0], .int .i64 2]) (by simp [results, Tryz.results68, go_sem, t0, t1, t2]) rfl
          (RetD.none (below3 (D0.out.trans (D.out.mono D0.out.size)) (by omega) _ _ _))
end DC
end Go.Proofs.YtelblhgagpkjmaaGreatDoor

/-
  Package dyad: subSizes.
-/
namespace Go.Proofs.YtelblhgagpkjmaaGreatDoor
set_option linter.unusedVariables false
set_option linter.unusedSimpArgs false
open Go.RowKit
set_option linter.unusedVariables false
namespace DC
open L NC NK
open Z (Nz Tz cmpv)
theorem sg_sub (b : Bool) (y z : Int) : sgm b y - sgm b z = sgm b (y - z) := by cases b <;> simp [sgm] <;> omega
theorem sub_ok {W : World} {u v : Value} {y z : Int} (g1 : NV W u y) (g2 : NV W v z) (h : z ≤ y ∧ y < 4294967296 ^ 400) : Calls Tryz.prog 92 #[u, v] W (RetP W 0 (y - z)) := by
  have P := p400_big
  have q1 := g1.pv (by omega)
  have q2 := g2.pv (by omega)
  rw [show erz y = 0 from if_pos h.2] at q1
  rw [show erz z = 0 from if_pos (by omega)] at q2
  have h1 := Sub_p q1 q2
  rw [show es 0 0 y z = 0 by unfold es; rw [if_pos (by decide), if_neg (by omega)], if_pos rfl] at h1
  exact h1
set_option maxRecDepth 100000 in
theorem subSizes_c (b b2 : Bool) (A1 A2 : Option Addr) (n1 c1 n2 c2 : Nat) (x1 x2 : Int) (d1 d2 : Dy) (w : World) (h1 : GV w b A1 n1 c1 x1 d1) (h2 : GV w b2 A2 n2 c2 x2 d2) (k1 : d1.m ≠ 0) (k2 : d2.m ≠ 0) (hb : b2 = !b)
    (hge : lv2 (ab d2) (ab d1) ≤ lv2 (ab d1) (ab d2)) (hT : TabD w) :
    Calls Tryz.prog 70 #[.agg #[.bool b, .slice A1 n1 c1, .int .i64 x1], .agg #[.bool b2, .slice A2 n2 c2, .int .i64 x2]] w (RetD w (sum d1 d2)) := by
  obtain ⟨o1, p1, s1, g1⟩ := gv_odd h1 k1
  obtain ⟨o2, p2, s2, g2⟩ := gv_odd h2 k2
  have e1 : x1 = d1.x := h1.2.2.1
  have e2 : x2 = d2.x := h2.2.2.1
  have y1 := h1.2.2.2.2.2.2.2
  have y2 := h2.2.2.2.2.2.2.2
  rw [← e1] at y1
  rw [← e2] at y2
  have AL := al_of o1 o2 p1 p2 s1 s2 y1 y2
  have AC := align_c b b2 A1 A2 n1 c1 n2 c2 x1 x2 d1 d2 (min x1 x2 + 1)
  rw [← e1, ← e2] at AC
  have ER : sum d1 d2 = fin (sgm b ((d1.m.natAbs : Int) * 2 ^ (x1 - min x1 x2).toNat - (d2.m.natAbs : Int) * 2 ^ (x2 - min x1 x2).toNat)) (min x1 x2) := by
    unfold sum lv2
    have hg : sgm b (d2.m.natAbs : Int) = -d2.m := by
      have := sg_not b d2.m.natAbs
      rw [← hb, ← g2] at this
      omega
    rw [← e1, ← e2, ← sg_sub, ← sg_mul, ← sg_mul, ← g1, hg, Int.neg_mul, Int.min_comm x2 x1, Int.sub_neg]
  have HGE : (d2.m.natAbs : Int) * 2 ^ (x2 - min x1 x2).toNat ≤ (d1.m.natAbs : Int) * 2 ^ (x1 - min x1 x2).toNat := by
    unfold lv2 ab at hge
    simp only at hge
    rw [← e1, ← e2, Int.min_comm x2 x1] at hge
    exact hge
  obtain ⟨W0, hW0, D0, KB⟩ := box3 w b b2 A1 A2 n1 c1 n2 c2 x1 x2
  have AC : ∀ W, Below W0.heap.size W0 W → _ := fun W hW => AC W ((h1.below D0).below hW) ((h2.below D0).below hW) (by omega) (by omega) (by omega) ((hT.below D0).below hW)
  have HT : Hid (∀ W, Below W0.heap.size W0 W → TabD W) := fun W hW => (hT.below D0).below hW
  generalize shq (d1.m.natAbs : Int) (x1 - (min x1 x2 + 1)) = A at *
  generalize shq (d2.m.natAbs : Int) (x2 - (min x1 x2 + 1)) = B at *
  generalize (d1.m.natAbs : Int) * 2 ^ (x1 - min x1 x2).toNat = S1 at *
  generalize (d2.m.natAbs : Int) * 2 ^ (x2 - min x1 x2).toNat = S2 at *
  generalize sum d1 d2 = r at *
  have AC := Lib.hid AC
  have KB := Lib.hid KB
  have D0 := Lib.hid D0
  have HW0 := Lib.hid hW0
  have i1 : IntKind.i64.wrap (min x1 x2 + 1) = min x1 x2 + 1 := IntWalk.i64_in _ (by omega)
  obtain ⟨⟨A0, AB, B0, BB⟩, AL⟩ := AL
  have OF : Hid (∀ W, Calls Tryz.prog 72 #[.int .u64 1] W (RetV W 1)) := fun W => Of_c 1 W (by omega)
  have P1 := p401_big
  have P4 := p400_pos
  clear hW0 h1 h2 o1 o2 p1 p2 s1 s2 g1 g2 e1 e2 k1 k2 hT hge hb
  rcases AL with ⟨hx, q1, q2, q3, q4, q5, q6⟩ | ⟨hx, q1, q2, q3, q4⟩ | ⟨hx, q1, q2, q3, q4⟩
  · have SU : Hid (∀ W A3 n3 c3 A4 n4 c4, NV W (.slice A3 n3 c3) (A) → NV W (.slice A4 n4 c4) (B) → Calls Tryz.prog 92 #[.slice A3 n3 c3, .slice A4 n4 c4] W (RetP W 0 (A - B))) := fun W A3 n3 c3 A4 n4 c4 g1 g2 => sub_ok g1 g2 (⟨by omega, q3⟩)
    have FN : Hid (∀ W A3 n3 c3, Below W0.heap.size W0 W → NV W (.slice A3 n3 c3) (A - B) → Calls Tryz.prog 67 #[.bool b, .slice A3 n3 c3, .int .i64 (min x1 x2 + 1)] W (RetD W r)) := fun W A3 n3 c3 hW g => by
      rw [ER, show S1 - S2 = 2 * (A - B) by omega, fin_two]
      exact finish_any b A3 n3 c3 _ _ W g (by omega) (by omega) (.inl (by omega)) (HT.out W hW)
    have hx' : (x1 == x2) = true := by simp [hx]
    clear ER q1 q2 q3 q4 q5 q6 A0 AB B0 BB P1 P4 y1 y2 hx HGE
    go_enter Tryz.func70, Tryz.ntmps70
    go_wp2_with (first
      | (go_at_call 86; rw [HW0.out]; (with_reducible refine (AC.out _ (Below.refl _ _)).mono ?_); rintro e w2 ⟨A3, n3, c3, A4, n4, c4, rfl, hv3, hv4, hb2⟩; have D := Lib.hid hb2; obtain ⟨⟨⟨p0, p1, p2⟩, q0, q1, q2⟩, R2⟩ := KB.out _ D.out; have t0 := R2.at_ 0 rfl; have t1 := R2.at_ 1 rfl; have t2 := R2.at_ 2 rfl; have f0 := R2.frozen 0; have f1 := R2.frozen 1; have f2 := R2.frozen 2; have R2 := Lib.hid R2)
      | (go_at_call 92; (with_reducible refine (SU.out _ _ _ _ _ _ _ hv3 hv4).mono ?_); rintro e w3 ⟨A5, n5, c5, rfl, hp5, hs5, hbb⟩; have D := Lib.hid (D.out.trans (hbb.mono D.out.size)); obtain ⟨⟨⟨p0, p1, p2⟩, q0, q1, q2⟩, R2⟩ := KB.out _ D.out; have t0 := R2.at_ 0 rfl; have t1 := R2.at_ 1 rfl; have t2 := R2.at_ 2 rfl; have f0 := R2.frozen 0; have f1 := R2.frozen 1; have f2 := R2.frozen 2; have R2 := Lib.hid R2)
      | (go_at_call 67; (with_reducible refine (FN.out _ _ _ _ D.out hs5).mono ?_); rintro e w6 ⟨bb, A5, n5, c5, x5, rfl, hv5, hbb⟩; have D := Lib.hid (D.out.trans (hbb.mono D.out.size)); obtain ⟨⟨⟨p0, p1, p2⟩, q0, q1, q2⟩, R2⟩ := KB.out _ D.out; have t0 := R2.at_ 0 rfl; have t1 := R2.at_ 1 rfl; have t2 := R2.at_ 2 rfl; have f0 := R2.frozen 0; have f1 := R2.frozen 1; have f2 := R2.frozen 2; have R2 := Lib.hid R2))
    exact bodyPost_ret (v := .tuple #[.agg #[.bool bb, .slice A5 n5 c5, .int .i64 x5], .int .i64 r.e]) (by simp [results, Tryz.results70, go_sem, t0, t1, t2]) rfl
          ⟨_, _, _, _, _, rfl, hv5.set3 R2.out _ _ _ (by intro z h; cases h) (by intro z h; cases h), below3 (D0.out.trans (D.out.mono D0.out.size)) (by omega) _ _ _⟩
  · have hx' : (x1 == x2) = false := by simp; omega
    have hx2 : x2 < x1 := hx
    by_cases h2 : A < 4294967296 ^ 400
    · have SU : Hid (∀ W A3 n3 c3 A4 n4 c4, NV W (.slice A3 n3 c3) (A) → NV W (.slice A4 n4 c4) (B) → Calls Tryz.prog 92 #[.slice A3 n3 c3, .slice A4 n4 c4] W (RetP W 0 (A - B))) := fun W A3 n3 c3 A4 n4 c4 g1 g2 => sub_ok g1 g2 (⟨by omega, h2⟩)
      have SV : Hid (∀ W A3 n3 c3 A4 n4 c4, NV W (.slice A3 n3 c3) (A - B) → NV W (.slice A4 n4 c4) (1) → Calls Tryz.prog 92 #[.slice A3 n3 c3, .slice A4 n4 c4] W (RetP W 0 (A - B - 1))) := fun W A3 n3 c3 A4 n4 c4 g1 g2 => sub_ok g1 g2 (⟨by omega, by omega⟩)
      have FN : Hid (∀ W A3 n3 c3, Below W0.heap.size W0 W → NV W (.slice A3 n3 c3) (A - B - 1) → Calls Tryz.prog 88 #[.bool b, .slice A3 n3 c3, .int .i64 (min x1 x2)] W (RetD W r)) := fun W A3 n3 c3 hW g => by
        rw [ER, show S1 - S2 = 2 * (A - B - 1) + 1 by omega]
        exact finishHalf_c b A3 n3 c3 _ _ W g (by omega) (by omega) (HT.out W hW)
      clear ER q1 q2 q3 q4 A0 AB B0 BB P1 P4 y1 y2 hx HGE h2
      go_enter Tryz.func70, Tryz.ntmps70
      go_wp2_with (first
        | (go_at_call 86; rw [HW0.out]; (with_reducible refine (AC.out _ (Below.refl _ _)).mono ?_); rintro e w2 ⟨A3, n3, c3, A4, n4, c4, rfl, hv3, hv4, hb2⟩; have D := Lib.hid hb2; obtain ⟨⟨⟨p0, p1, p2⟩, q0, q1, q2⟩, R2⟩ := KB.out _ D.out; have t0 := R2.at_ 0 rfl; have t1 := R2.at_ 1 rfl; have t2 := R2.at_ 2 rfl; have f0 := R2.frozen 0; have f1 := R2.frozen 1; have f2 := R2.frozen 2; have R2 := Lib.hid R2)
        | (go_at_call 92; (with_reducible refine (SU.out _ _ _ _ _ _ _ hv3 hv4).mono ?_); rintro e w3 ⟨A5, n5, c5, rfl, hp5, hs5, hbb⟩; have D := Lib.hid (D.out.trans (hbb.mono D.out.size)); obtain ⟨⟨⟨p0, p1, p2⟩, q0, q1, q2⟩, R2⟩ := KB.out _ D.out; have t0 := R2.at_ 0 rfl; have t1 := R2.at_ 1 rfl; have t2 := R2.at_ 2 rfl; have f0 := R2.frozen 0; have f1 := R2.frozen 1; have f2 := R2.frozen 2; have R2 := Lib.hid R2)
        | (go_at_call 72; (with_reducible refine (OF.out _).mono ?_); rintro e w4 ⟨A6, n6, c6, rfl, ho6, hbb⟩; have hs5 := hs5.below hbb; have D := Lib.hid (D.out.trans (hbb.mono D.out.size)); obtain ⟨⟨⟨p0, p1, p2⟩, q0, q1, q2⟩, R2⟩ := KB.out _ D.out; have t0 := R2.at_ 0 rfl; have t1 := R2.at_ 1 rfl; have t2 := R2.at_ 2 rfl; have f0 := R2.frozen 0; have f1 := R2.frozen 1; have f2 := R2.frozen 2; have R2 := Lib.hid R2)
        | (go_at_call 92; (with_reducible refine (SV.out _ _ _ _ _ _ _ hs5 ho6).mono ?_); rintro e w5 ⟨A7, n7, c7, rfl, hp7, hs7, hbb⟩; have D := Lib.hid (D.out.trans (hbb.mono D.out.size)); obtain ⟨⟨⟨p0, p1, p2⟩, q0, q1, q2⟩, R2⟩ := KB.out _ D.out; have t0 := R2.at_ 0 rfl; have t1 := R2.at_ 1 rfl; have t2 := R2.at_ 2 rfl; have f0 := R2.frozen 0; have f1 := R2.frozen 1; have f2 := R2.frozen 2; have R2 := Lib.hid R2)
        | (go_at_call 88; (with_reducible refine (FN.out _ _ _ _ D.out hs7).mono ?_); rintro e w6 ⟨bb, A5, n5, c5, x5, rfl, hv5, hbb⟩; have D := Lib.hid (D.out.trans (hbb.mono D.out.size)); obtain ⟨⟨⟨p0, p1, p2⟩, q0, q1, q2⟩, R2⟩ := KB.out _ D.out; have t0 := R2.at_ 0 rfl; have t1 := R2.at_ 1 rfl; have t2 := R2.at_ 2 rfl; have f0 := R2.frozen 0; have f1 := R2.frozen 1; have f2 := R2.frozen 2; have R2 := Lib.hid R2))
      exact bodyPost_ret (v := .tuple #[.agg #[.bool bb, .slice A5 n5 c5, .int .i64 x5], .int .i64 r.e]) (by simp [results, Tryz.results70, go_sem, t0, t1, t2]) rfl
          ⟨_, _, _, _, _, rfl, hv5.set3 R2.out _ _ _ (by intro z h; cases h) (by intro z h; cases h), below3 (D0.out.trans (D.out.mono D0.out.size)) (by omega) _ _ _⟩
    · have SU : Hid (∀ W A3 n3 c3 A4 n4 c4, NV W (.slice A3 n3 c3) A → NV W (.slice A4 n4 c4) B → Calls Tryz.prog 92 #[.slice A3 n3 c3, .slice A4 n4 c4] W (RetP W 2 0)) := fun W A3 n3 c3 A4 n4 c4 g1 g2 => by
        have q1 := g1.pv AB
        have q2 := g2.pv BB
        rw [show erz A = 2 from if_neg h2] at q1
        exact Sub_p q1 q2
      rw [fin_big (by omega) (by omega)] at ER
      rw [ER]
      clear ER h2 q1 q2 q3 q4 A0 AB B0 BB P1 P4 y1 y2 hx HGE
      go_enter Tryz.func70, Tryz.ntmps70
      go_wp2_with (first
        | (go_at_call 86; rw [HW0.out]; (with_reducible refine (AC.out _ (Below.refl _ _)).mono ?_); rintro e w2 ⟨A3, n3, c3, A4, n4, c4, rfl, hv3, hv4, hb2⟩; have D := Lib.hid hb2; obtain ⟨⟨⟨p0, p1, p2⟩, q0, q1, q2⟩, R2⟩ := KB.out _ D.out; have t0 := R2.at_ 0 rfl; have t1 := R2.at_ 1 rfl; have t2 := R2.at_ 2 rfl; have f0 := R2.frozen 0; have f1 := R2.frozen 1; have f2 := R2.frozen 2; have R2 := Lib.hid R2)
        | (go_at_call 92; (with_reducible refine (SU.out _ _ _ _ _ _ _ hv3 hv4).mono ?_); rintro e w3 ⟨A5, n5, c5, rfl, hp5, hs5, hbb⟩; have D := Lib.hid (D.out.trans (hbb.mono D.out.size)); obtain ⟨⟨⟨p0, p1, p2⟩, q0, q1, q2⟩, R2⟩ := KB.out _ D.out; have t0 := R2.at_ 0 rfl; have t1 := R2.at_ 1 rfl; have t2 := R2.at_ 2 rfl; have f0 := R2.frozen 0; have f1 := R2.frozen 1; have f2 := R2.frozen 2; have R2 := Lib.hid R2))
      exact bodyPost_ret (v := .tuple #[.agg #[.bool false, .slice none 0 0, .int .i64 0], .int .i64 2]) (by simp [results, Tryz.results70, go_sem, t0, t1, t2]) rfl
          (RetD.none (below3 (D0.out.trans (D.out.mono D0.out.size)) (by omega) _ _ _))
  · have hx' : (x1 == x2) = false := by simp; omega
    have hx2 : ¬ x2 < x1 := by omega
    have SU : Hid (∀ W A3 n3 c3 A4 n4 c4, NV W (.slice A3 n3 c3) (A) → NV W (.slice A4 n4 c4) (B) → Calls Tryz.prog 92 #[.slice A3 n3 c3, .slice A4 n4 c4] W (RetP W 0 (A - B))) := fun W A3 n3 c3 A4 n4 c4 g1 g2 => sub_ok g1 g2 (⟨by omega, q3⟩)
    have FN : Hid (∀ W A3 n3 c3, Below W0.heap.size W0 W → NV W (.slice A3 n3 c3) (A - B) → Calls Tryz.prog 88 #[.bool b, .slice A3 n3 c3, .int .i64 (min x1 x2)] W (RetD W r)) := fun W A3 n3 c3 hW g => by
      rw [ER, show S1 - S2 = 2 * (A - B) + 1 by omega]
      exact finishHalf_c b A3 n3 c3 _ _ W g (by omega) (by omega) (HT.out W hW)
    clear ER q1 q2 q3 q4 A0 AB B0 BB P1 P4 y1 y2 hx HGE
    go_enter Tryz.func70, Tryz.ntmps70
    go_wp2_with (first
      | (go_at_call 86; rw [HW0.out]; (with_reducible refine (AC.out _ (Below.refl _ _)).mono ?_); rintro e w2 ⟨A3, n3, c3, A4, n4, c4, rfl, hv3, hv4, hb2⟩; have D := Lib.hid hb2; obtain ⟨⟨⟨p0, p1, p2⟩, q0, q1, q2⟩, R2⟩ := KB.out _ D.out; have t0 := R2.at_ 0 rfl; have t1 := R2.at_ 1 rfl; have t2 := R2.at_ 2 rfl; have f0 := R2.frozen 0; have f1 := R2.frozen 1; have f2 := R2.frozen 2; have R2 := Lib.hid R2)
      | (go_at_call 92; (with_reducible refine (SU.out _ _ _ _ _ _ _ hv3 hv4).mono ?_); rintro e w3 ⟨A5, n5, c5, rfl, hp5, hs5, hbb⟩; have D := Lib.hid (D.out.trans (hbb.mono D.out.size)); obtain ⟨⟨⟨p0, p1, p2⟩, q0, q1, q2⟩, R2⟩ := KB.out _ D.out; have t0 := R2.at_ 0 rfl; have t1 := R2.at_ 1 rfl; have t2 := R2.at_ 2 rfl; have f0 := R2.frozen 0; have f1 := R2.frozen 1; have f2 := R2.frozen 2; have R2 := Lib.hid R2)
      | (go_at_call 88; (with_reducible refine (FN.out _ _ _ _ D.out hs5).mono ?_); rintro e w6 ⟨bb, A5, n5, c5, x5, rfl, hv5, hbb⟩; have D := Lib.hid (D.out.trans (hbb.mono D.out.size)); obtain ⟨⟨⟨p0, p1, p2⟩, q0, q1, q2⟩, R2⟩ := KB.out _ D.out; have t0 := R2.at_ 0 rfl; have t1 := R2.at_ 1 rfl; have t2 := R2.at_ 2 rfl; have f0 := R2.frozen 0; have f1 := R2.frozen 1; have f2 := R2.frozen 2; have R2 := Lib.hid R2))
    exact bodyPost_ret (v := .tuple #[.agg #[.bool bb, .slice A5 n5 c5, .int .i64 x5], .int .i64 r.e]) (by simp [results, Tryz.results70, go_sem, t0, t1, t2]) rfl
          ⟨_, _, _, _, _, rfl, hv5.set3 R2.out _ _ _ (by intro z h; cases h) (by intro z h; cases h), below3 (D0.out.trans (D.out.mono D0.out.size)) (by omega) _ _ _⟩
end DC
end Go.Proofs.YtelblhgagpkjmaaGreatDoor

/-
  Package dyad: add; the arguments in general; checkBoth.
-/
namespace Go.Proofs.YtelblhgagpkjmaaGreatDoor
set_option linter.unusedVariables false
set_option linter.unusedSimpArgs false
open Go.RowKit
set_option linter.unusedVariables false
namespace DC
open L NC NK
open Z (Nz Tz cmpv)
theorem sum_comm (a b : Dy) : sum a b = sum b a := by unfold sum; rw [Int.add_comm, Int.min_comm]
theorem sum_z {a b : Dy} (h : a.m = 0) (hc : can a.m a.x) : sum a b = fin b.m b.x := by
  have hx : a.x = 0 := by unfold can at hc; omega
  unfold sum lv2
  rw [h, Int.zero_mul, Int.zero_add, fin_shift, hx]
  congr 1; omega
theorem gv_sg {w : World} {b A n c x d} (h : GV w b A n c x d) : sgm b d.m.natAbs = d.m := by
  obtain ⟨-, hb, -⟩ := h
  rw [hb]; unfold sgm
  by_cases h : d.m < 0 <;> simp [h] <;> omega
theorem cmpv_neg {x y : Int} (h : cmpv x y < 0) : x ≤ y := by
  rcases Int.lt_trichotomy x y with h1 | h1 | h1
  · omega
  · omega
  · rw [Z.cmpv_gt h1] at h; omega
theorem cmpv_pos {x y : Int} (h : ¬ cmpv x y < 0) : y ≤ x := by
  rcases Int.lt_trichotomy x y with h1 | h1 | h1
  · rw [Z.cmpv_lt h1] at h; omega
  · omega
  · omega
theorem gv_finish {b : Bool} {A : Option Addr} {n c : Nat} {x : Int} {d : Dy} {w : World} (h : GV w b A n c x d) (hT : TabD w) : Calls Tryz.prog 67 #[.bool b, .slice A n c, .int .i64 x] w (RetD w (fin d.m d.x)) := by
  have e := h.2.2.1
  have hb : (d.m.natAbs : Int) < big3 ∧ (d.m.natAbs : Int) < 4294967296 ^ 400 ∧ -10000 ≤ d.x ∧ d.x ≤ 10000 := by
    obtain ⟨i1, i2, i3, i4⟩ := h.2.2.2.2.2
    have P := p400_big
    generalize (4294967296 : Int) ^ 400 = c400 at *
    omega
  have e' : fin (sgm b d.m.natAbs) x = fin d.m d.x := by rw [gv_sg h, e]
  rw [← e']
  exact finish_any b A n c x d.m.natAbs w h.1 hb.1 (by have := hb.2.2; omega) (.inl hb.2.1) hT
set_option maxRecDepth 100000 in
theorem add_c (b1 b2 : Bool) (A1 A2 : Option Addr) (n1 c1 n2 c2 : Nat) (x1 x2 : Int) (d1 d2 : Dy) (w : World) (h1 : GV w b1 A1 n1 c1 x1 d1) (h2 : GV w b2 A2 n2 c2 x2 d2) (hT : TabD w) :
    Calls Tryz.prog 43 #[.agg #[.bool b1, .slice A1 n1 c1, .int .i64 x1], .agg #[.bool b2, .slice A2 n2 c2, .int .i64 x2]] w (RetD w (sum d1 d2)) := by
  have z1 := gv_zero h1
  have z2 := gv_zero h2
  obtain ⟨W0, hW0, D0, KB⟩ := box3 w b1 b2 A1 A2 n1 c1 n2 c2 x1 x2
  have I1 : Hid (∀ W, Calls Tryz.prog 66 #[.agg #[.bool b1, .slice A1 n1 c1, .int .i64 x1]] W (RetB W (.bool (decide (n1 = 0))))) := fun W => isZero_c b1 A1 n1 c1 x1 W
  have I2 : Hid (∀ W, Calls Tryz.prog 66 #[.agg #[.bool b2, .slice A2 n2 c2, .int .i64 x2]] W (RetB W (.bool (decide (n2 = 0))))) := fun W => isZero_c b2 A2 n2 c2 x2 W
  have HT : Hid (∀ W, Below W0.heap.size W0 W → TabD W) := fun W hW => (hT.below D0).below hW
  have G1 : Hid (∀ W, Below W0.heap.size W0 W → GV W b1 A1 n1 c1 x1 d1) := fun W hW => (h1.below D0).below hW
  have G2 : Hid (∀ W, Below W0.heap.size W0 W → GV W b2 A2 n2 c2 x2 d2) := fun W hW => (h2.below D0).below hW
  have KB := Lib.hid KB
  have D0 := Lib.hid D0
  have HW0 := Lib.hid hW0
  obtain ⟨r, hr⟩ : ∃ r, sum d1 d2 = r := ⟨_, rfl⟩
  rw [hr]
  have HR := Lib.hid hr
  by_cases g1 : n1 = 0
  · have t1 : decide (n1 = 0) = true := by simp [g1]
    rw [t1] at I1
    have FN : Hid (∀ W, Below W0.heap.size W0 W → Calls Tryz.prog 67 #[.bool b2, .slice A2 n2 c2, .int .i64 x2] W (RetD W r)) := fun W hW => by
      rw [← HR.out, sum_z (z1.1 g1) h1.2.2.2.2.1]
      exact gv_finish (G2.out W hW) (HT.out W hW)
    clear t1 g1 hr hT h1 h2 hW0 z1 z2
    go_enter Tryz.func43, Tryz.ntmps43
    go_wp2_with (first
      | (go_at_call 66; rw [HW0.out]; (with_reducible refine (I1.out _).mono ?_); rintro e w2 ⟨rfl, hb0⟩; have D := Lib.hid hb0; obtain ⟨⟨⟨p0, p1, p2⟩, q0, q1, q2⟩, R2⟩ := KB.out _ D.out; have t0 := R2.at_ 0 rfl; have t1 := R2.at_ 1 rfl; have t2 := R2.at_ 2 rfl; have f0 := R2.frozen 0; have f1 := R2.frozen 1; have f2 := R2.frozen 2; have R2 := Lib.hid R2)
      | (go_at_call 67; (with_reducible refine (FN.out _ D.out).mono ?_); rintro e w6 ⟨bb, A5, n5, c5, x5, rfl, hv5, hb0⟩; have D := Lib.hid (D.out.trans (hb0.mono D.out.size)); obtain ⟨⟨⟨p0, p1, p2⟩, q0, q1, q2⟩, R2⟩ := KB.out _ D.out; have t0 := R2.at_ 0 rfl; have t1 := R2.at_ 1 rfl; have t2 := R2.at_ 2 rfl; have f0 := R2.frozen 0; have f1 := R2.frozen 1; have f2 := R2.frozen 2; have R2 := Lib.hid R2))
    exact bodyPost_ret (v := .tuple #[.agg #[.bool bb, .slice A5 n5 c5, .int .i64 x5], .int .i64 r.e]) (by simp [results, Tryz.results43, go_sem, t0, t1, t2]) rfl
      ⟨_, _, _, _, _, rfl, hv5.set3 R2.out _ _ _ (by intro z h; cases h) (by intro z h; cases h), below3 (D0.out.trans (D.out.mono D0.out.size)) (by omega) _ _ _⟩
  · have t1 : decide (n1 = 0) = false := by simp [g1]
    rw [t1] at I1
    by_cases g2 : n2 = 0
    · have t2 : decide (n2 = 0) = true := by simp [g2]
      rw [t2] at I2
      have FN : Hid (∀ W, Below W0.heap.size W0 W → Calls Tryz.prog 67 #[.bool b1, .slice A1 n1 c1, .int .i64 x1] W (RetD W r)) := fun W hW => by
        rw [← HR.out, sum_comm, sum_z (z2.1 g2) h2.2.2.2.2.1]
        exact gv_finish (G1.out W hW) (HT.out W hW)
      clear t1 t2 g1 g2 hr hT h1 h2 hW0 z1 z2
      go_enter Tryz.func43, Tryz.ntmps43
      go_wp2_with (first
        | (go_at_call 66; rw [HW0.out]; (with_reducible refine (I1.out _).mono ?_); rintro e w2 ⟨rfl, hb0⟩; have D := Lib.hid hb0; obtain ⟨⟨⟨p0, p1, p2⟩, q0, q1, q2⟩, R2⟩ := KB.out _ D.out; have t0 := R2.at_ 0 rfl; have t1 := R2.at_ 1 rfl; have t2 := R2.at_ 2 rfl; have f0 := R2.frozen 0; have f1 := R2.frozen 1; have f2 := R2.frozen 2; have R2 := Lib.hid R2)
        | (go_at_call 66; (with_reducible refine (I2.out _).mono ?_); rintro e w3 ⟨rfl, hb0⟩; have D := Lib.hid (D.out.trans (hb0.mono D.out.size)); obtain ⟨⟨⟨p0, p1, p2⟩, q0, q1, q2⟩, R2⟩ := KB.out _ D.out; have t0 := R2.at_ 0 rfl; have t1 := R2.at_ 1 rfl; have t2 := R2.at_ 2 rfl; have f0 := R2.frozen 0; have f1 := R2.frozen 1; have f2 := R2.frozen 2; have R2 := Lib.hid R2)
        | (go_at_call 67; (with_reducible refine (FN.out _ D.out).mono ?_); rintro e w6 ⟨bb, A5, n5, c5, x5, rfl, hv5, hb0⟩; have D := Lib.hid (D.out.trans (hb0.mono D.out.size)); obtain ⟨⟨⟨p0, p1, p2⟩, q0, q1, q2⟩, R2⟩ := KB.out _ D.out; have t0 := R2.at_ 0 rfl; have t1 := R2.at_ 1 rfl; have t2 := R2.at_ 2 rfl; have f0 := R2.frozen 0; have f1 := R2.frozen 1; have f2 := R2.frozen 2; have R2 := Lib.hid R2))
      exact bodyPost_ret (v := .tuple #[.agg #[.bool bb, .slice A5 n5 c5, .int .i64 x5], .int .i64 r.e]) (by simp [results, Tryz.results43, go_sem, t0, t1, t2]) rfl
        ⟨_, _, _, _, _, rfl, hv5.set3 R2.out _ _ _ (by intro z h; cases h) (by intro z h; cases h), below3 (D0.out.trans (D.out.mono D0.out.size)) (by omega) _ _ _⟩
    · have t2 : decide (n2 = 0) = false := by simp [g2]
      rw [t2] at I2
      have k1 : d1.m ≠ 0 := fun h => g1 (z1.2 h)
      have k2 : d2.m ≠ 0 := fun h => g2 (z2.2 h)
      by_cases hb : b1 = b2
      · subst hb
        have hbb : (b1 == b1) = true := by simp
        have AS : Hid (∀ W, Below W0.heap.size W0 W → Calls Tryz.prog 68 #[.agg #[.bool b1, .slice A1 n1 c1, .int .i64 x1], .agg #[.bool b1, .slice A2 n2 c2, .int .i64 x2]] W (RetD W r)) := fun W hW => by
          rw [← HR.out]; exact addSizes_c b1 A1 A2 n1 c1 n2 c2 x1 x2 d1 d2 W (G1.out W hW) (G2.out W hW) k1 k2 (HT.out W hW)
        clear t1 t2 g1 g2 hr hT h1 h2 hW0 z1 z2 k1 k2
        go_enter Tryz.func43, Tryz.ntmps43
        go_wp2_with (first
          | (go_at_call 66; rw [HW0.out]; (with_reducible refine (I1.out _).mono ?_); rintro e w2 ⟨rfl, hb0⟩; have D := Lib.hid hb0; obtain ⟨⟨⟨p0, p1, p2⟩, q0, q1, q2⟩, R2⟩ := KB.out _ D.out; have t0 := R2.at_ 0 rfl; have t1 := R2.at_ 1 rfl; have t2 := R2.at_ 2 rfl; have f0 := R2.frozen 0; have f1 := R2.frozen 1; have f2 := R2.frozen 2; have R2 := Lib.hid R2)
          | (go_at_call 66; (with_reducible refine (I2.out _).mono ?_); rintro e w3 ⟨rfl, hb0⟩; have D := Lib.hid (D.out.trans (hb0.mono D.out.size)); obtain ⟨⟨⟨p0, p1, p2⟩, q0, q1, q2⟩, R2⟩ := KB.out _ D.out; have t0 := R2.at_ 0 rfl; have t1 := R2.at_ 1 rfl; have t2 := R2.at_ 2 rfl; have f0 := R2.frozen 0; have f1 := R2.frozen 1; have f2 := R2.frozen 2; have R2 := Lib.hid R2)
          | (go_at_call 68; (with_reducible refine (AS.out _ D.out).mono ?_); rintro e w6 ⟨bb, A5, n5, c5, x5, rfl, hv5, hb0⟩; have D := Lib.hid (D.out.trans (hb0.mono D.out.size)); obtain ⟨⟨⟨p0, p1, p2⟩, q0, q1, q2⟩, R2⟩ := KB.out _ D.out; have t0 := R2.at_ 0 rfl; have t1 := R2.at_ 1 rfl; have t2 := R2.at_ 2 rfl; have f0 := R2.frozen 0; have f1 := R2.frozen 1; have f2 := R2.frozen 2; have R2 := Lib.hid R2))
        exact bodyPost_ret (v := .tuple #[.agg #[.bool bb, .slice A5 n5 c5, .int .i64 x5], .int .i64 r.e]) (by simp [results, Tryz.results43, go_sem, t0, t1, t2]) rfl
          ⟨_, _, _, _, _, rfl, hv5.set3 R2.out _ _ _ (by intro z h; cases h) (by intro z h; cases h), below3 (D0.out.trans (D.out.mono D0.out.size)) (by omega) _ _ _⟩
      · have hbb : (b1 == b2) = false := by simp [hb]
        have hb2 : b2 = !b1 := by cases b1 <;> cases b2 <;> simp_all
        have CS : Hid (∀ W, Below W0.heap.size W0 W → Calls Tryz.prog 69 #[.agg #[.bool b1, .slice A1 n1 c1, .int .i64 x1], .agg #[.bool b2, .slice A2 n2 c2, .int .i64 x2]] W (RetB W (.int .i64 (cmpv (lv2 (ab d1) (ab d2)) (lv2 (ab d2) (ab d1)))))) := fun W hW =>
          compareSizes_c b1 b2 A1 A2 n1 c1 n2 c2 x1 x2 d1 d2 W (G1.out W hW) (G2.out W hW) (HT.out W hW)
        obtain ⟨V, hV⟩ : ∃ V, cmpv (lv2 (ab d1) (ab d2)) (lv2 (ab d2) (ab d1)) = V := ⟨_, rfl⟩
        rw [hV] at CS
        by_cases hv : V < 0
        · have SS : Hid (∀ W, Below W0.heap.size W0 W → Calls Tryz.prog 70 #[.agg #[.bool b2, .slice A2 n2 c2, .int .i64 x2], .agg #[.bool b1, .slice A1 n1 c1, .int .i64 x1]] W (RetD W r)) := fun W hW => by
            rw [← HR.out, sum_comm]; exact subSizes_c b2 b1 A2 A1 n2 c2 n1 c1 x2 x1 d2 d1 W (G2.out W hW) (G1.out W hW) k2 k1 (by rw [hb2]; simp) (cmpv_neg (by rw [hV]; exact hv)) (HT.out W hW)
          clear t1 t2 g1 g2 hr hT h1 h2 hW0 z1 z2 k1 k2 hV hb hb2
          go_enter Tryz.func43, Tryz.ntmps43
          go_wp2_with (first
            | (go_at_call 66; rw [HW0.out]; (with_reducible refine (I1.out _).mono ?_); rintro e w2 ⟨rfl, hb0⟩; have D := Lib.hid hb0; obtain ⟨⟨⟨p0, p1, p2⟩, q0, q1, q2⟩, R2⟩ := KB.out _ D.out; have t0 := R2.at_ 0 rfl; have t1 := R2.at_ 1 rfl; have t2 := R2.at_ 2 rfl; have f0 := R2.frozen 0; have f1 := R2.frozen 1; have f2 := R2.frozen 2; have R2 := Lib.hid R2)
            | (go_at_call 66; (with_reducible refine (I2.out _).mono ?_); rintro e w3 ⟨rfl, hb0⟩; have D := Lib.hid (D.out.trans (hb0.mono D.out.size)); obtain ⟨⟨⟨p0, p1, p2⟩, q0, q1, q2⟩, R2⟩ := KB.out _ D.out; have t0 := R2.at_ 0 rfl; have t1 := R2.at_ 1 rfl; have t2 := R2.at_ 2 rfl; have f0 := R2.frozen 0; have f1 := R2.frozen 1; have f2 := R2.frozen 2; have R2 := Lib.hid R2)
            | (go_at_call 69; (with_reducible refine (CS.out _ D.out).mono ?_); rintro e w4 ⟨rfl, hb0⟩; have D := Lib.hid (D.out.trans (hb0.mono D.out.size)); obtain ⟨⟨⟨p0, p1, p2⟩, q0, q1, q2⟩, R2⟩ := KB.out _ D.out; have t0 := R2.at_ 0 rfl; have t1 := R2.at_ 1 rfl; have t2 := R2.at_ 2 rfl; have f0 := R2.frozen 0; have f1 := R2.frozen 1; have f2 := R2.frozen 2; have R2 := Lib.hid R2)
            | (go_at_call 70; (with_reducible refine (SS.out _ D.out).mono ?_); rintro e w6 ⟨bb, A5, n5, c5, x5, rfl, hv5, hb0⟩; have D := Lib.hid (D.out.trans (hb0.mono D.out.size)); obtain ⟨⟨⟨p0, p1, p2⟩, q0, q1, q2⟩, R2⟩ := KB.out _ D.out; have t0 := R2.at_ 0 rfl; have t1 := R2.at_ 1 rfl; have t2 := R2.at_ 2 rfl; have f0 := R2.frozen 0; have f1 := R2.frozen 1; have f2 := R2.frozen 2; have R2 := Lib.hid R2))
          exact bodyPost_ret (v := .tuple #[.agg #[.bool bb, .slice A5 n5 c5, .int .i64 x5], .int .i64 r.e]) (by simp [results, Tryz.results43, go_sem, t0, t1, t2]) rfl
            ⟨_, _, _, _, _, rfl, hv5.set3 R2.out _ _ _ (by intro z h; cases h) (by intro z h; cases h), below3 (D0.out.trans (D.out.mono D0.out.size)) (by omega) _ _ _⟩
        · have SS : Hid (∀ W, Below W0.heap.size W0 W → Calls Tryz.prog 70 #[.agg #[.bool b1, .slice A1 n1 c1, .int .i64 x1], .agg #[.bool b2, .slice A2 n2 c2, .int .i64 x2]] W (RetD W r)) := fun W hW => by
            rw [← HR.out]; exact subSizes_c b1 b2 A1 A2 n1 c1 n2 c2 x1 x2 d1 d2 W (G1.out W hW) (G2.out W hW) k1 k2 hb2 (cmpv_pos (by rw [hV]; exact hv)) (HT.out W hW)
          clear t1 t2 g1 g2 hr hT h1 h2 hW0 z1 z2 k1 k2 hV hb hb2
          go_enter Tryz.func43, Tryz.ntmps43
          go_wp2_with (first
            | (go_at_call 66; rw [HW0.out]; (with_reducible refine (I1.out _).mono ?_); rintro e w2 ⟨rfl, hb0⟩; have D := Lib.hid hb0; obtain ⟨⟨⟨p0, p1, p2⟩, q0, q1, q2⟩, R2⟩ := KB.out _ D.out; have t0 := R2.at_ 0 rfl; have t1 := R2.at_ 1 rfl; have t2 := R2.at_ 2 rfl; have f0 := R2.frozen 0; have f1 := R2.frozen 1; have f2 := R2.frozen 2; have R2 := Lib.hid R2)
            | (go_at_call 66; (with_reducible refine (I2.out _).mono ?_); rintro e w3 ⟨rfl, hb0⟩; have D := Lib.hid (D.out.trans (hb0.mono D.out.size)); obtain ⟨⟨⟨p0, p1, p2⟩, q0, q1, q2⟩, R2⟩ := KB.out _ D.out; have t0 := R2.at_ 0 rfl; have t1 := R2.at_ 1 rfl; have t2 := R2.at_ 2 rfl; have f0 := R2.frozen 0; have f1 := R2.frozen 1; have f2 := R2.frozen 2; have R2 := Lib.hid R2)
            | (go_at_call 69; (with_reducible refine (CS.out _ D.out).mono ?_); rintro e w4 ⟨rfl, hb0⟩; have D := Lib.hid (D.out.trans (hb0.mono D.out.size)); obtain ⟨⟨⟨p0, p1, p2⟩, q0, q1, q2⟩, R2⟩ := KB.out _ D.out; have t0 := R2.at_ 0 rfl; have t1 := R2.at_ 1 rfl; have t2 := R2.at_ 2 rfl; have f0 := R2.frozen 0; have f1 := R2.frozen 1; have f2 := R2.frozen 2; have R2 := Lib.hid R2)
            | (go_at_call 70; (with_reducible refine (SS.out _ D.out).mono ?_); rintro e w6 ⟨bb, A5, n5, c5, x5, rfl, hv5, hb0⟩; have D := Lib.hid (D.out.trans (hb0.mono D.out.size)); obtain ⟨⟨⟨p0, p1, p2⟩, q0, q1, q2⟩, R2⟩ := KB.out _ D.out; have t0 := R2.at_ 0 rfl; have t1 := R2.at_ 1 rfl; have t2 := R2.at_ 2 rfl; have f0 := R2.frozen 0; have f1 := R2.frozen 1; have f2 := R2.frozen 2; have R2 := Lib.hid R2))
          exact bodyPost_ret (v := .tuple #[.agg #[.bool bb, .slice A5 n5 c5, .int .i64 x5], .int .i64 r.e]) (by simp [results, Tryz.results43, go_sem, t0, t1, t2]) rfl
            ⟨_, _, _, _, _, rfl, hv5.set3 R2.out _ _ _ (by intro z h; cases h) (by intro z h; cases h), below3 (D0.out.trans (D.out.mono D0.out.size)) (by omega) _ _ _⟩
end DC
end Go.Proofs.YtelblhgagpkjmaaGreatDoor

/-
  Package dyad: the arguments in general; checkBoth, Add, Mul, Shift.
-/
namespace Go.Proofs.YtelblhgagpkjmaaGreatDoor
set_option linter.unusedVariables false
set_option linter.unusedSimpArgs false
open Go.RowKit
set_option linter.unusedVariables false
namespace DC
open L NC NK
open Z (Nz Tz cmpv)
/-- any Dyad: what Check tells of it, and, if it is in its form, what it is -/
def DV (w : World) (v : Value) (d : Dy) : Prop :=
  ∃ b A n c x l, v = .agg #[.bool b, .slice A n c, .int .i64 x] ∧ Sl .u32 w (.slice A n c) l ∧ Lim l ∧ l.length ≤ 9223372036854775807 ∧ d.er = dchk b l x ∧ (d.er = 0 → GV w b A n c x d) ∧ (d.er ≠ 0 → d.m = 0 ∧ d.x = 0)
theorem DV.below {w w' : World} {v : Value} {d : Dy} (h : DV w v d) (hb : Below w.heap.size w w') : DV w' v d := by
  obtain ⟨b, A, n, c, x, l, e, h1, h2, h3, h4, h5, h6⟩ := h
  exact ⟨b, A, n, c, x, l, e, h1.below hb, h2, h3, h4, fun h => (h5 h).below hb, h6⟩
theorem DV.drewN {w : World} {v : Value} {d : Dy} (h : DV w v d) (k : Nat) : DV (w.drewN k) v d := h
theorem dchk0 {b : Bool} {l : List Int} {x : Int} (h : dchk b l x = 0) : l.length ≤ 400 ∧ -10000 ≤ x ∧ x ≤ 10000 ∧ nrm b l x = true := by
  unfold dchk at h
  by_cases h1 : 400 < l.length ∨ ¬ (-10000 ≤ x ∧ x ≤ 10000)
  · rw [if_pos h1] at h; cases h
  · rw [if_neg h1] at h
    by_cases h2 : nrm b l x = true
    · exact ⟨by omega, by omega, by omega, h2⟩
    · rw [if_neg h2] at h; cases h
theorem nrm_gv {w : World} {b : Bool} {A : Option Addr} {n c : Nat} {x : Int} {l : List Int} (hs : Sl .u32 w (.slice A n c) l) (Ll : Lim l) (h : dchk b l x = 0) : GV w b A n c x ⟨0, sgm b (lv l), x⟩ := by
  obtain ⟨h1, h2, h3, h4⟩ := dchk0 h
  have hp := lv_nonneg Ll
  have hlt := Int.lt_of_lt_of_le (lv_lt Ll) (pow_mono h1)
  have P := p400_pos
  unfold nrm at h4
  by_cases h0 : l = []
  · rw [if_pos h0] at h4
    simp only [Bool.and_eq_true, Bool.not_eq_true', decide_eq_true_eq] at h4
    obtain ⟨rfl, rfl⟩ := h4
    subst h0
    refine ⟨⟨[], hs, Ll, fun h => absurd rfl h, rfl⟩, rfl, rfl, rfl, .inl ⟨rfl, rfl⟩, ?_⟩
    unfold inb
    generalize (4294967296 : Int) ^ 400 = c400 at *
    exact ⟨by simp [sgm, lv]; omega, by simp [sgm, lv]; omega, by omega, by omega⟩
  · rw [if_neg h0] at h4
    simp only [Bool.and_eq_true, decide_eq_true_eq] at h4
    obtain ⟨h5, h6⟩ := h4
    have h7 := chk_ok.1 h5
    have hpos : 0 < lv l := by omega
    obtain ⟨z, hz⟩ : ∃ z, lv l = z := ⟨_, rfl⟩
    rw [hz] at hp hlt h6 hpos ⊢
    refine ⟨⟨l, hs, Ll, h7.2, ?_⟩, ?_, rfl, rfl, .inr ?_, ?_⟩
    · rw [hz]
      show z = ((sgm b z).natAbs : Int)
      unfold sgm; cases b <;> simp <;> omega
    · show b = decide (sgm b z < 0)
      unfold sgm; cases b <;> simp <;> omega
    · show sgm b z % 2 = 1
      unfold sgm; cases b <;> simp <;> omega
    · unfold inb
      show sgm b z < _ ∧ _ < sgm b z ∧ -10000 ≤ x ∧ x ≤ 10000
      generalize (4294967296 : Int) ^ 400 = c400 at *
      unfold sgm
      refine ⟨?_, ?_, h2, h3⟩ <;> (cases b <;> simp <;> omega)
theorem DV.of (w : World) (b : Bool) (A : Option Addr) (n c : Nat) (x : Int) (l : List Int) (hs : Sl .u32 w (.slice A n c) l) (Ll : Lim l) (hl : l.length ≤ 9223372036854775807) : ∃ d, DV w (.agg #[.bool b, .slice A n c, .int .i64 x]) d := by
  by_cases h : dchk b l x = 0
  · exact ⟨⟨0, sgm b (lv l), x⟩, b, A, n, c, x, l, rfl, hs, Ll, hl, h.symm, fun _ => nrm_gv hs Ll h, fun h => absurd rfl h⟩
  · exact ⟨⟨dchk b l x, 0, 0⟩, b, A, n, c, x, l, rfl, hs, Ll, hl, rfl, fun e => absurd e h, fun _ => ⟨rfl, rfl⟩⟩
theorem GV.dv {w : World} {b A n c x d} (h : GV w b A n c x d) : DV w (.agg #[.bool b, .slice A n c, .int .i64 x]) d := by
  obtain ⟨⟨l, h1, h2, h3, h4⟩, hb, hx, he, hc, hi⟩ := h
  have hs : lv l < 4294967296 ^ 400 := by
    unfold inb at hi
    generalize (4294967296 : Int) ^ 400 = c400 at *
    omega
  have hl := len_le h2 h3 hs
  refine ⟨b, A, n, c, x, l, rfl, h1, h2, by omega, ?_, fun _ => ⟨⟨l, h1, h2, h3, h4⟩, hb, hx, he, hc, hi⟩, fun h => absurd he h⟩
  rw [he]
  unfold dchk
  rw [if_neg, if_pos]
  · unfold nrm
    by_cases h0 : l = []
    · rw [if_pos h0]
      rw [h0] at h4
      have hm : d.m = 0 := by simp [lv] at h4; omega
      unfold can at hc
      have hx0 : x = 0 := by omega
      rw [hb, hm, hx0]; rfl
    · rw [if_neg h0]
      have hc1 : chk l = 0 := chk_ok.2 ⟨hl, h3⟩
      have hm : d.m ≠ 0 := by
        intro h
        have := lv_ge h2 h3 h0
        have := pow_pos (l.length - 1)
        rw [h] at h4
        simp at h4
        omega
      unfold can at hc
      have ho : lv l % 2 = 1 := by omega
      rw [hc1, ho]; rfl
  · intro h
    unfold inb at hi
    omega
end DC
end Go.Proofs.YtelblhgagpkjmaaGreatDoor

/-
  Package dyad: checkBoth, Add, Mul, Shift.
-/
namespace Go.Proofs.YtelblhgagpkjmaaGreatDoor
set_option linter.unusedVariables false
set_option linter.unusedSimpArgs false
open Go.RowKit
set_option linter.unusedVariables false
namespace DC
open L NC NK
open Z (Nz Tz cmpv)
theorem Check_d (v : Value) (d : Dy) (w : World) (h : DV w v d) : Calls Tryz.prog 65 #[v] w (RetB w (.int .i64 d.er)) := by
  obtain ⟨b, A, n, c, x, l, rfl, h1, h2, h3, h4, h5, h6⟩ := h
  rw [h4]
  exact Check_c b A n c x l w h1 h2 h3
theorem checkBoth_d (u v : Value) (d1 d2 : Dy) (w : World) (h1 : DV w u d1) (h2 : DV w v d2) : Calls Tryz.prog 42 #[u, v] w (RetB w (.int .i64 (ee d1.er d2.er))) := by
  have H1 := Lib.hid h1
  have H2 := Lib.hid h2
  obtain ⟨b1, A1, n1, c1, x1, l1, rfl, -⟩ := h1
  obtain ⟨b2, A2, n2, c2, x2, l2, rfl, -⟩ := h2
  obtain ⟨W0, hW0, D0, KB⟩ := box2 w b1 b2 A1 A2 n1 c1 n2 c2 x1 x2
  have C1 : Hid (Calls Tryz.prog 65 #[.agg #[.bool b1, .slice A1 n1 c1, .int .i64 x1]] W0 (RetB W0 (.int .i64 d1.er))) := Check_d _ d1 W0 (H1.out.below D0)
  have C2 : Hid (∀ W, Below W0.heap.size W0 W → Calls Tryz.prog 65 #[.agg #[.bool b2, .slice A2 n2 c2, .int .i64 x2]] W (RetB W (.int .i64 d2.er))) := fun W hW => Check_d _ d2 W ((H2.out.below D0).below hW)
  have KB := Lib.hid KB
  have D0 := Lib.hid D0
  have HW0 := Lib.hid hW0
  obtain ⟨E, hE⟩ : ∃ E, d1.er = E := ⟨_, rfl⟩
  rw [hE] at C1 ⊢
  by_cases h0 : E = 0
  · have t1 : (E != 0) = false := by simp [h0]
    rw [show ee E d2.er = d2.er by unfold ee; rw [if_neg (by simpa using h0)]]
    clear h0 hE hW0
    go_enter Tryz.func42, Tryz.ntmps42
    go_wp2_with (first
      | (go_at_call 65; rw [HW0.out]; (with_reducible refine (C1.out).mono ?_); rintro e w2 ⟨rfl, hb0⟩; have D := Lib.hid hb0; obtain ⟨⟨p0, p1, p2⟩, q0, q1, q2⟩ := KB.out _ D.out)
      | (go_at_call 65; (with_reducible refine (C2.out _ D.out).mono ?_); rintro e w3 ⟨rfl, hb1⟩))
    go_ret
    exact ⟨rfl, (D0.out.trans (D.out.mono D0.out.size)).trans (hb1.mono (Nat.le_trans D0.out.size D.out.size))⟩
  · have t1 : (E != 0) = true := by simp [h0]
    rw [show ee E d2.er = E by unfold ee; rw [if_pos (by simpa using h0)]]
    clear h0 hE hW0
    go_enter Tryz.func42, Tryz.ntmps42
    go_wp2_with (first
      | (go_at_call 65; rw [HW0.out]; (with_reducible refine (C1.out).mono ?_); rintro e w2 ⟨rfl, hb0⟩; have D := Lib.hid hb0; obtain ⟨⟨p0, p1, p2⟩, q0, q1, q2⟩ := KB.out _ D.out))
    go_ret
    exact ⟨rfl, D0.out.trans (D.out.mono D0.out.size)⟩
theorem Add_d (u v : Value) (d1 d2 : Dy) (w : World) (h1 : DV w u d1) (h2 : DV w v d2) (hT : TabD w) : Calls Tryz.prog 17 #[u, v] w (RetD w (Add d1 d2)) := by
  have H1 := Lib.hid h1
  have H2 := Lib.hid h2
  obtain ⟨b1, A1, n1, c1, x1, l1, rfl, -, -, -, -, g1, -⟩ := h1
  obtain ⟨b2, A2, n2, c2, x2, l2, rfl, -, -, -, -, g2, -⟩ := h2
  obtain ⟨W0, hW0, D0, KB⟩ := box3 w b1 b2 A1 A2 n1 c1 n2 c2 x1 x2
  have CB : Hid (Calls Tryz.prog 42 #[.agg #[.bool b1, .slice A1 n1 c1, .int .i64 x1], .agg #[.bool b2, .slice A2 n2 c2, .int .i64 x2]] W0 (RetB W0 (.int .i64 (ee d1.er d2.er)))) := checkBoth_d _ _ d1 d2 W0 (H1.out.below D0) (H2.out.below D0)
  have KB := Lib.hid KB
  have D0 := Lib.hid D0
  have HW0 := Lib.hid hW0
  unfold Add
  obtain ⟨E, hE⟩ : ∃ E, ee d1.er d2.er = E := ⟨_, rfl⟩
  rw [hE] at CB ⊢
  by_cases h0 : E = 0
  · rw [if_neg (by simpa using h0)]
    have t1 : (E != 0) = false := by simp [h0]
    rw [h0] at hE
    obtain ⟨e1, e2⟩ := ee0.1 hE
    have AD : Hid (∀ W, Below W0.heap.size W0 W → Calls Tryz.prog 43 #[.agg #[.bool b1, .slice A1 n1 c1, .int .i64 x1], .agg #[.bool b2, .slice A2 n2 c2, .int .i64 x2]] W (RetD W (sum d1 d2))) := fun W hW =>
      add_c b1 b2 A1 A2 n1 c1 n2 c2 x1 x2 d1 d2 W (((g1 e1).below D0.out).below hW) (((g2 e2).below D0.out).below hW) ((hT.below D0.out).below hW)
    generalize sum d1 d2 = r at *
    clear h0 hE hW0 e1 e2 g1 g2 hT H1 H2
    go_enter Tryz.func17, Tryz.ntmps17
    go_wp2_with (first
      | (go_at_call 42; rw [HW0.out]; (with_reducible refine (CB.out).mono ?_); rintro e w2 ⟨rfl, hb0⟩; have D := Lib.hid hb0; obtain ⟨⟨⟨p0, p1, p2⟩, q0, q1, q2⟩, R2⟩ := KB.out _ D.out; have t0 := R2.at_ 0 rfl; have t1 := R2.at_ 1 rfl; have t2 := R2.at_ 2 rfl; have f0 := R2.frozen 0; have f1 := R2.frozen 1; have f2 := R2.frozen 2; have R2 := Lib.hid R2)
      | (go_at_call 43; (with_reducible refine (AD.out _ D.out).mono ?_); rintro e w6 ⟨bb, A5, n5, c5, x5, rfl, hv5, hb0⟩; have D := Lib.hid (D.out.trans (hb0.mono D.out.size)); obtain ⟨⟨⟨p0, p1, p2⟩, q0, q1, q2⟩, R2⟩ := KB.out _ D.out; have t0 := R2.at_ 0 rfl; have t1 := R2.at_ 1 rfl; have t2 := R2.at_ 2 rfl; have f0 := R2.frozen 0; have f1 := R2.frozen 1; have f2 := R2.frozen 2; have R2 := Lib.hid R2))
    exact bodyPost_ret (v := .tuple #[.agg #[.bool bb, .slice A5 n5 c5, .int .i64 x5], .int .i64 r.e]) (by simp [results, Tryz.results17, go_sem, t0, t1, t2]) rfl
      ⟨_, _, _, _, _, rfl, hv5.set3 R2.out _ _ _ (by intro z h; cases h) (by intro z h; cases h), below3 (D0.out.trans (D.out.mono D0.out.size)) (by omega) _ _ _⟩
  · rw [if_pos (by simpa using h0)]
    have t1 : (E != 0) = true := by simp [h0]
    clear h0 hE hW0 g1 g2 hT H1 H2
    go_enter Tryz.func17, Tryz.ntmps17
    go_wp2_with (first
      | (go_at_call 42; rw [HW0.out]; (with_reducible refine (CB.out).mono ?_); rintro e w2 ⟨rfl, hb0⟩; have D := Lib.hid hb0; obtain ⟨⟨⟨p0, p1, p2⟩, q0, q1, q2⟩, R2⟩ := KB.out _ D.out; have t0 := R2.at_ 0 rfl; have t1 := R2.at_ 1 rfl; have t2 := R2.at_ 2 rfl; have f0 := R2.frozen 0; have f1 := R2.frozen 1; have f2 := R2.frozen 2; have R2 := Lib.hid R2))
    exact bodyPost_ret (v := .tuple #[.agg #[.bool false, .slice none 0 0, .int .i64 0], .int .i64 E]) (by simp [results, Tryz.results17, go_sem, t0, t1, t2]) rfl
      (RetD.none (below3 (D0.out.trans (D.out.mono D0.out.size)) (by omega) _ _ _))
end DC
end Go.Proofs.YtelblhgagpkjmaaGreatDoor

/-
  Package dyad: Sub, Shift.
-/
namespace Go.Proofs.YtelblhgagpkjmaaGreatDoor
set_option linter.unusedVariables false
set_option linter.unusedSimpArgs false
open Go.RowKit
set_option linter.unusedVariables false
namespace DC
open L NC NK
open Z (Nz Tz cmpv)
end DC
end Go.Proofs.YtelblhgagpkjmaaGreatDoor

/-
  Package dyad: Shift, Make, Same, Cmp.
-/
namespace Go.Proofs.YtelblhgagpkjmaaGreatDoor
set_option linter.unusedVariables false
set_option linter.unusedSimpArgs false
open Go.RowKit
set_option linter.unusedVariables false
namespace DC
open L NC NK
open Z (Nz Tz cmpv)
end DC
end Go.Proofs.YtelblhgagpkjmaaGreatDoor

/-
  Package dyad: Same, Cmp.
-/
namespace Go.Proofs.YtelblhgagpkjmaaGreatDoor
set_option linter.unusedVariables false
set_option linter.unusedSimpArgs false
open Go.RowKit
set_option linter.unusedVariables false
namespace DC
open L NC NK
open Z (Nz Tz cmpv)
end DC
end Go.Proofs.YtelblhgagpkjmaaGreatDoor

/-
  Plain mathematics for package float: sign, exponent, fraction, class, rank and steps of a number's bits, as functions on integers; no program in sight.
-/
namespace Go.Proofs.YtelblhgagpkjmaaGreatDoor.F
set_option linter.unusedVariables false
set_option linter.unusedSimpArgs false
open Go
set_option linter.unusedVariables false

/-- the sign -/
def sgn (x : Int) : Bool := decide (9223372036854775808 ≤ x)
def neg (x : Int) : Int := if x < 9223372036854775808 then x + 9223372036854775808 else x - 9223372036854775808
def abs (x : Int) : Int := x % 9223372036854775808
def exq (x : Int) : Int := x % 9223372036854775808 / 4503599627370496
def fra (x : Int) : Int := x % 4503599627370496
def cls (x : Int) : Int := if exq x = 0 then (if fra x = 0 then 1 else 2) else if exq x < 2047 then 3 else if fra x = 0 then 4 else 5
/-- the rank of a number that is one -/
def rnk (x : Int) : Int := if x < 9223372036854775808 then x else 9223372036854775808 - x
/-- the number of a rank -/
def num (n : Int) : Int := if n < 0 then 9223372036854775808 - n else n
theorem sgn_t {x : Int} (h : 9223372036854775808 ≤ x) : sgn x = true := by simp [sgn, h]
theorem sgn_f {x : Int} (h : x < 9223372036854775808) : sgn x = false := by simp [sgn]; omega
theorem sgn_iff (x : Int) : sgn x = true ↔ 9223372036854775808 ≤ x := by simp [sgn]
theorem sgn_iff' (x : Int) : sgn x = false ↔ x < 9223372036854775808 := by simp [sgn]

theorem neg_bd (x : Int) (h0 : 0 ≤ x) (h1 : x ≤ 18446744073709551615) : 0 ≤ neg x ∧ neg x ≤ 18446744073709551615 := by unfold neg; split <;> omega
theorem abs_bd (x : Int) : 0 ≤ abs x ∧ abs x ≤ 9223372036854775807 := by unfold abs; omega
theorem exq_bd (x : Int) : 0 ≤ exq x ∧ exq x ≤ 2047 := by unfold exq; omega
theorem fra_bd (x : Int) : 0 ≤ fra x ∧ fra x ≤ 4503599627370495 := by unfold fra; omega
theorem neg_neg (x : Int) (h0 : 0 ≤ x) (h1 : x ≤ 18446744073709551615) : neg (neg x) = x := by unfold neg; split <;> split <;> omega
theorem cls_bd (x : Int) : 1 ≤ cls x ∧ cls x ≤ 5 := by unfold cls; repeat (first | omega | split)
theorem xor_nat (x : Nat) (h : x < 18446744073709551616) : x ^^^ 9223372036854775808 = if x < 9223372036854775808 then x + 9223372036854775808 else x - 9223372036854775808 := by
  have h2 : (9223372036854775808 : Nat) = 2 ^ 63 := rfl
  split
  · have e : x ^^^ 9223372036854775808 = x ||| 9223372036854775808 := by
      apply Nat.eq_of_testBit_eq; intro i
      rw [Nat.testBit_xor, Nat.testBit_or]
      by_cases hi : i = 63
      · subst hi; rw [Nat.testBit_lt_two_pow (by omega : x < 2 ^ 63)]; simp
      · have : Nat.testBit 9223372036854775808 i = false := by rw [h2]; exact Nat.testBit_two_pow_of_ne (by omega)
        rw [this]; simp
    rw [e, Nat.or_comm, nat_join 63 _ _ (by decide) (by omega)]; omega
  · obtain ⟨y, rfl⟩ : ∃ y, x = 9223372036854775808 + y := ⟨x - 9223372036854775808, by omega⟩
    have e : (9223372036854775808 + y) = 9223372036854775808 ||| y := (nat_join 63 _ _ (by decide) (by omega)).symm
    rw [e]
    have : (9223372036854775808 ||| y) ^^^ 9223372036854775808 = y := by
      apply Nat.eq_of_testBit_eq; intro i
      rw [Nat.testBit_xor, Nat.testBit_or]
      by_cases hi : i = 63
      · subst hi; rw [Nat.testBit_lt_two_pow (by omega : y < 2 ^ 63)]; simp
      · have : Nat.testBit 9223372036854775808 i = false := by rw [h2]; exact Nat.testBit_two_pow_of_ne (by omega)
        rw [this]; simp
    rw [this]
    have : (9223372036854775808 ||| y) = 9223372036854775808 + y := nat_join 63 _ _ (by decide) (by omega)
    omega
theorem neg_bits (x : Int) (h0 : 0 ≤ x) (h1 : x ≤ 18446744073709551615) : bits .xor .u64 x 9223372036854775808 = neg x := by
  rw [u64_xor x _ h0 (by omega) (by decide) (by decide)]
  rw [show (9223372036854775808 : Int).toNat = 9223372036854775808 from rfl, xor_nat _ (by omega)]
  unfold neg; split <;> split <;> omega
theorem abs_bits (x : Int) (h0 : 0 ≤ x) (h1 : x ≤ 18446744073709551615) : bits .andNot .u64 x 9223372036854775808 = abs x := by
  rw [u64_andNot x _ h0 (by omega) (by decide) (by decide)]
  rw [show 18446744073709551615 - (9223372036854775808 : Int).toNat = 2 ^ 63 - 1 from rfl, Nat.and_two_pow_sub_one_eq_mod]
  unfold abs; omega
def mk (s : Bool) (e f : Int) : Int := if s then neg (e * 4503599627370496 + f) else e * 4503599627370496 + f
theorem mk_parts (x : Int) (h0 : 0 ≤ x) (h1 : x ≤ 18446744073709551615) : mk (sgn x) (exq x) (fra x) = x := by
  unfold mk neg exq fra
  by_cases h : 9223372036854775808 ≤ x
  · rw [sgn_t h]; simp only [if_true]; split <;> omega
  · rw [sgn_f (by omega)]; simp; omega
def ulp (x : Int) : Int := (if 1 ≤ exq x then exq x else 1) - 1075
def nn (x : Int) : Prop := x % 9223372036854775808 ≤ 9218868437227405312
theorem exq_ref (x : Int) : x / 4503599627370496 % 2048 = exq x := by unfold exq; omega
end Go.Proofs.YtelblhgagpkjmaaGreatDoor.F

/-
  What each function of package float returns, for every argument: contracts over the loaded program.
-/
namespace Go.Proofs.YtelblhgagpkjmaaGreatDoor
set_option linter.unusedVariables false
set_option linter.unusedSimpArgs false
open Go.RowKit
set_option linter.unusedVariables false
namespace FloatC
theorem negative_c (x : Int) (h0 : 0 ≤ x) (h1 : x ≤ 18446744073709551615) (w : World) :
    Calls Tryz.prog 45 #[.int .u64 x] w fun e w' => e = .returned (.bool (F.sgn x)) ∧ w = w' := by
  go_enter Tryz.func45, Tryz.ntmps45
  go_wp2
  go_ret
  exact ⟨rfl, rfl⟩
theorem Neg_c (x : Int) (h0 : 0 ≤ x) (h1 : x ≤ 18446744073709551615) (w : World) :
    Calls Tryz.prog 100 #[.int .u64 x] w fun e w' => e = .returned (.int .u64 (F.neg x)) ∧ w = w' := by
  go_enter Tryz.func100, Tryz.ntmps100
  go_wp2
  go_ret
  exact ⟨ret_int (F.neg_bits x h0 h1), rfl⟩
theorem Abs_c (x : Int) (h0 : 0 ≤ x) (h1 : x ≤ 18446744073709551615) (w : World) :
    Calls Tryz.prog 46 #[.int .u64 x] w fun e w' => e = .returned (.int .u64 (F.abs x)) ∧ w = w' := by
  go_enter Tryz.func46, Tryz.ntmps46
  go_wp2
  go_ret
  exact ⟨ret_int (F.abs_bits x h0 h1), rfl⟩
theorem Parts_c (x : Int) (h0 : 0 ≤ x) (h1 : x ≤ 18446744073709551615) (w : World) :
    Calls Tryz.prog 19 #[.int .u64 x] w fun e w' => e = .returned (.tuple #[.bool (F.sgn x), .int .i64 (F.exq x), .int .u64 (F.fra x)]) ∧ w = w' := by
  obtain ⟨a0, a1⟩ := F.abs_bd x
  go_enter Tryz.func19, Tryz.ntmps19
  go_wp2_with (first | (go_at_call 45; (with_reducible refine (negative_c _ h0 h1 _).mono ?_); rintro e w' ⟨rfl, rfl⟩) | (go_at_call 46; (with_reducible refine (Abs_c _ h0 h1 _).mono ?_); rintro e w' ⟨rfl, rfl⟩))
  go_ret3
  exact ⟨rfl, rfl⟩
theorem Class_c (x : Int) (h0 : 0 ≤ x) (h1 : x ≤ 18446744073709551615) (w : World) :
    Calls Tryz.prog 47 #[.int .u64 x] w fun e w' => e = .returned (.int .i64 (F.cls x)) ∧ w = w' := by
  go_enter Tryz.func47, Tryz.ntmps47
  go_wp2_with (go_at_call 19; (with_reducible refine (Parts_c _ h0 h1 _).mono ?_); rintro e w' ⟨rfl, rfl⟩)
  all_goals (go_ret; refine ⟨ret_int ?_, rfl⟩; unfold F.cls; simp_all; try omega)
theorem Ulp_ok (x : Int) (h0 : 0 ≤ x) (h1 : x ≤ 18446744073709551615) (he : F.exq x ≤ 2046) (w : World) :
    Calls Tryz.prog 71 #[.int .u64 x] w fun e w' => e = .returned (.tuple #[.int .i64 (F.ulp x), .int .i64 0]) ∧ w = w' := by
  have hb := F.exq_bd x
  have hc : (F.exq x == 2047) = false := by rw [beq_eq_false_iff_ne]; omega
  by_cases h3 : 1 ≤ F.exq x
  · have hu := Lib.hid (show F.exq x - 1075 = F.ulp x by unfold F.ulp; rw [if_pos h3])
    have hm : max (F.exq x) 1 = F.exq x := by omega
    go_enter Tryz.func71, Tryz.ntmps71
    go_wp2_with (first | (go_at_call 19; (with_reducible refine (Parts_c _ h0 h1 _).mono ?_); rintro e w' ⟨rfl, rfl⟩))
    go_ret2
    rw [← hu.out]
    exact ⟨rfl, rfl⟩
  · have hu := Lib.hid (show -1074 = F.ulp x by unfold F.ulp; rw [if_neg h3]; rfl)
    have hm : max (F.exq x) 1 = 1 := by omega
    go_enter Tryz.func71, Tryz.ntmps71
    go_wp2_with (first | (go_at_call 19; (with_reducible refine (Parts_c _ h0 h1 _).mono ?_); rintro e w' ⟨rfl, rfl⟩))
    go_ret2
    rw [← hu.out]
    exact ⟨rfl, rfl⟩
theorem Ulp_no (x : Int) (h0 : 0 ≤ x) (h1 : x ≤ 18446744073709551615) (he : F.exq x = 2047) (w : World) :
    Calls Tryz.prog 71 #[.int .u64 x] w fun e w' => e = .returned (.tuple #[.int .i64 0, .int .i64 4]) ∧ w = w' := by
  have hc : (F.exq x == 2047) = true := by rw [beq_iff_eq]; omega
  clear he
  go_enter Tryz.func71, Tryz.ntmps71
  go_wp2_with (first | (go_at_call 19; (with_reducible refine (Parts_c _ h0 h1 _).mono ?_); rintro e w' ⟨rfl, rfl⟩))
  go_ret2
  exact ⟨rfl, rfl⟩
end FloatC
end Go.Proofs.YtelblhgagpkjmaaGreatDoor

/-
  Package dyad: Of; one and a half, twice.
-/
namespace Go.Proofs.YtelblhgagpkjmaaGreatDoor
set_option linter.unusedVariables false
set_option linter.unusedSimpArgs false
open Go.RowKit
set_option linter.unusedVariables false
namespace DC
open L NC NK
open Z (Nz Tz cmpv)
def mant (x : Int) : Int := if 0 < F.exq x then F.fra x + 4503599627370496 else F.fra x
def OfD (x : Int) : Re := if F.exq x = 2047 then ⟨4, dz⟩ else fin (sgm (F.sgn x) (mant x)) (F.ulp x)
theorem Of_d (x : Int) (h0 : 0 ≤ x) (h1 : x ≤ 18446744073709551615) (w : World) (hT : TabD w) : Calls Tryz.prog 44 #[.int .u64 x] w (RetD w (OfD x)) := by
  obtain ⟨W0, hW0, D0, ZS, KB⟩ := res0 w
  have KB := Lib.hid KB
  have D0 := Lib.hid D0
  have HW0 := Lib.hid hW0
  have D := Lib.hid (Below.refl W0.heap.size W0)
  unfold OfD
  by_cases h2 : F.exq x = 2047
  · rw [if_pos h2]
    have UL : Hid (∀ W, Calls Tryz.prog 71 #[.int .u64 x] W fun e w' => e = .returned (.tuple #[.int .i64 0, .int .i64 4]) ∧ W = w') := fun W => FloatC.Ulp_no x h0 h1 h2 W
    clear hW0 h0 h1 h2 hT
    go_enter Tryz.func44, Tryz.ntmps44
    go_wp2_with (first
      | (go_at_call 71; rw [HW0.out]; (with_reducible refine (UL.out _).mono ?_); rintro e w2 ⟨rfl, rfl⟩; have R2 := KB.out _ D.out; have t0 := R2.at_ 0 rfl; have t1 := R2.at_ 1 rfl; have t2 := R2.at_ 2 rfl; have f0 := R2.frozen 0; have f1 := R2.frozen 1; have f2 := R2.frozen 2; have R2 := Lib.hid R2))
    exact bodyPost_ret (v := .tuple #[.agg #[.bool false, .slice none 0 0, .int .i64 0], .int .i64 4]) (by simp [results, Tryz.results44, go_sem, t0, t1, t2]) rfl
      (RetD.none (below3 (D0.out.trans (D.out.mono D0.out.size)) (by omega) _ _ _))
  · rw [if_neg h2]
    have hb := F.exq_bd x
    have hf := F.fra_bd x
    have UL : Hid (∀ W, Calls Tryz.prog 71 #[.int .u64 x] W fun e w' => e = .returned (.tuple #[.int .i64 (F.ulp x), .int .i64 0]) ∧ W = w') := fun W => FloatC.Ulp_ok x h0 h1 (by omega) W
    have PA : Hid (∀ W, Calls Tryz.prog 19 #[.int .u64 x] W fun e w' => e = .returned (.tuple #[.bool (F.sgn x), .int .i64 (F.exq x), .int .u64 (F.fra x)]) ∧ W = w') := fun W => FloatC.Parts_c x h0 h1 W
    have mb : 0 ≤ mant x ∧ mant x < 18446744073709551616 := by unfold mant; split <;> omega
    have OF : Hid (∀ W, Calls Tryz.prog 72 #[.int .u64 (mant x)] W (RetV W (mant x))) := fun W => Of_c (mant x) W mb
    have ub : -50000 ≤ F.ulp x ∧ F.ulp x ≤ 50000 := by unfold F.ulp; split <;> omega
    have FN : Hid (∀ W A n c, Below W0.heap.size W0 W → NV W (.slice A n c) (mant x) → Calls Tryz.prog 67 #[.bool (F.sgn x), .slice A n c, .int .i64 (F.ulp x)] W (RetD W (fin (sgm (F.sgn x) (mant x)) (F.ulp x)))) := fun W A n c hW g => by
      have hm : mant x < 4294967296 ^ 400 := Int.lt_trans mb.2 (Int.lt_of_lt_of_le (show (18446744073709551616 : Int) < 4294967296 ^ 3 by decide) (pow_mono (by decide)))
      exact finish_any _ A n c _ _ W g (Int.lt_of_lt_of_le hm p400_big) ub (.inl hm) ((hT.below D0.out).below hW)
    generalize fin (sgm (F.sgn x) (mant x)) (F.ulp x) = r at *
    have HM : Hid ((0 < F.exq x ∧ F.fra x + 4503599627370496 = mant x) ∨ (¬ 0 < F.exq x ∧ F.fra x = mant x)) := by
      by_cases h : 0 < F.exq x
      · left; unfold mant; rw [if_pos h]; exact ⟨h, rfl⟩
      · right; unfold mant; rw [if_neg h]; exact ⟨h, rfl⟩
    have i1 : IntKind.u64.wrap (F.fra x + 4503599627370496) = F.fra x + 4503599627370496 := IntWalk.u64_in _ (by omega)
    generalize mant x = m at *
    generalize F.ulp x = u at *
    generalize F.sgn x = sg at *
    generalize F.exq x = ex at *
    generalize F.fra x = fr at *
    clear hW0 h0 h1 h2 hT hb hf mb ub
    rcases HM.out with ⟨k1, k2⟩ | ⟨k1, k2⟩
    · rw [k2] at i1
      have K2 := Lib.hid k2
      clear k2 HM
      go_enter Tryz.func44, Tryz.ntmps44
      go_wp2_with (first
        | (go_at_call 71; rw [HW0.out]; (with_reducible refine (UL.out _).mono ?_); rintro e w2 ⟨rfl, rfl⟩; have R2 := KB.out _ D.out; have t0 := R2.at_ 0 rfl; have t1 := R2.at_ 1 rfl; have t2 := R2.at_ 2 rfl; have f0 := R2.frozen 0; have f1 := R2.frozen 1; have f2 := R2.frozen 2; have R2 := Lib.hid R2)
        | (go_at_call 19; (with_reducible refine (PA.out _).mono ?_); rintro e w3 ⟨rfl, rfl⟩)
        | (go_at_call 72; (try simp only [K2.out, i1]); (with_reducible refine (OF.out _).mono ?_); rintro e w4 ⟨A6, n6, c6, rfl, ho6, hb0⟩; have D := Lib.hid (D.out.trans (hb0.mono D.out.size)); have R2 := KB.out _ D.out; have t0 := R2.at_ 0 rfl; have t1 := R2.at_ 1 rfl; have t2 := R2.at_ 2 rfl; have f0 := R2.frozen 0; have f1 := R2.frozen 1; have f2 := R2.frozen 2; have R2 := Lib.hid R2)
        | (go_at_call 67; (with_reducible refine (FN.out _ _ _ _ D.out ho6).mono ?_); rintro e w6 ⟨bb, A5, n5, c5, x5, rfl, hv5, hb0⟩; have D := Lib.hid (D.out.trans (hb0.mono D.out.size)); have R2 := KB.out _ D.out; have t0 := R2.at_ 0 rfl; have t1 := R2.at_ 1 rfl; have t2 := R2.at_ 2 rfl; have f0 := R2.frozen 0; have f1 := R2.frozen 1; have f2 := R2.frozen 2; have R2 := Lib.hid R2))
      exact bodyPost_ret (v := .tuple #[.agg #[.bool bb, .slice A5 n5 c5, .int .i64 x5], .int .i64 r.e]) (by simp [results, Tryz.results44, go_sem, t0, t1, t2]) rfl
        ⟨_, _, _, _, _, rfl, hv5.set3 R2.out _ _ _ (by intro z h; cases h) (by intro z h; cases h), below3 (D0.out.trans (D.out.mono D0.out.size)) (by omega) _ _ _⟩
    · subst k2
      clear HM i1
      go_enter Tryz.func44, Tryz.ntmps44
      go_wp2_with (first
        | (go_at_call 71; rw [HW0.out]; (with_reducible refine (UL.out _).mono ?_); rintro e w2 ⟨rfl, rfl⟩; have R2 := KB.out _ D.out; have t0 := R2.at_ 0 rfl; have t1 := R2.at_ 1 rfl; have t2 := R2.at_ 2 rfl; have f0 := R2.frozen 0; have f1 := R2.frozen 1; have f2 := R2.frozen 2; have R2 := Lib.hid R2)
        | (go_at_call 19; (with_reducible refine (PA.out _).mono ?_); rintro e w3 ⟨rfl, rfl⟩)
        | (go_at_call 72; (with_reducible refine (OF.out _).mono ?_); rintro e w4 ⟨A6, n6, c6, rfl, ho6, hb0⟩; have D := Lib.hid (D.out.trans (hb0.mono D.out.size)); have R2 := KB.out _ D.out; have t0 := R2.at_ 0 rfl; have t1 := R2.at_ 1 rfl; have t2 := R2.at_ 2 rfl; have f0 := R2.frozen 0; have f1 := R2.frozen 1; have f2 := R2.frozen 2; have R2 := Lib.hid R2)
        | (go_at_call 67; (with_reducible refine (FN.out _ _ _ _ D.out ho6).mono ?_); rintro e w6 ⟨bb, A5, n5, c5, x5, rfl, hv5, hb0⟩; have D := Lib.hid (D.out.trans (hb0.mono D.out.size)); have R2 := KB.out _ D.out; have t0 := R2.at_ 0 rfl; have t1 := R2.at_ 1 rfl; have t2 := R2.at_ 2 rfl; have f0 := R2.frozen 0; have f1 := R2.frozen 1; have f2 := R2.frozen 2; have R2 := Lib.hid R2))
      exact bodyPost_ret (v := .tuple #[.agg #[.bool bb, .slice A5 n5 c5, .int .i64 x5], .int .i64 r.e]) (by simp [results, Tryz.results44, go_sem, t0, t1, t2]) rfl
        ⟨_, _, _, _, _, rfl, hv5.set3 R2.out _ _ _ (by intro z h; cases h) (by intro z h; cases h), below3 (D0.out.trans (D.out.mono D0.out.size)) (by omega) _ _ _⟩
end DC
end Go.Proofs.YtelblhgagpkjmaaGreatDoor

/-
  One and a half, twice.
-/
namespace Go.Proofs.YtelblhgagpkjmaaGreatDoor
set_option linter.unusedVariables false
set_option linter.unusedSimpArgs false
open Go.RowKit
set_option linter.unusedVariables false
namespace DC
open L NC NK
open Z (Nz Tz cmpv)
end DC
end Go.Proofs.YtelblhgagpkjmaaGreatDoor

/-
  One and a half, twice: the walk.
-/
namespace Go.Proofs.YtelblhgagpkjmaaGreatDoor
set_option linter.unusedVariables false
set_option linter.unusedSimpArgs false
open Go.RowKit
set_option linter.unusedVariables false
namespace DC
open L NC NK
open Z (Nz Tz cmpv)
theorem BX.below {W W' : World} {g : Nat} {b : Bool} {A : Option Addr} {n c : Nat} {x : Int} (h : BX W g b A n c x) (hb : Below W.heap.size W W') : BX W' g b A n c x := by
  obtain ⟨h0, h1, h2⟩ := h
  exact ⟨(hb.cell (World.block_lt_of_cell? W _ h0)).trans h0, (hb.cell (World.block_lt_of_cell? W _ h1)).trans h1, (hb.cell (World.block_lt_of_cell? W _ h2)).trans h2⟩
theorem BX.new (W : World) (b : Bool) (A : Option Addr) (n c : Nat) (x : Int) : BX (W.alloc (.cells #[.bool b, .slice A n c, .int .i64 x] 26)) W.heap.size b A n c x := BX.of (Blk.new W 26 _)
theorem al1 (W : World) (o : Obj) : Below W.heap.size W (W.alloc o) := (Below.refl _ _).alloc (Nat.le_refl _) _
end DC
end Go.Proofs.YtelblhgagpkjmaaGreatDoor

/-
  A slice of limbs that came in, in my words.
-/
namespace Go.Proofs.YtelblhgagpkjmaaGreatDoor
set_option linter.unusedVariables false
set_option linter.unusedSimpArgs false
open Go.RowKit
set_option linter.unusedVariables false
namespace NC
open L
end NC
end Go.Proofs.YtelblhgagpkjmaaGreatDoor

/-
  Sums and products of Dyads, pure; boxed Dyads in memory.
-/
namespace Go.Proofs.YtelblhgagpkjmaaGreatDoor
set_option linter.unusedVariables false
set_option linter.unusedSimpArgs false
open Go.RowKit
set_option linter.unusedVariables false
namespace DC
open L NC NK
open Z (Nz Tz cmpv)
def S (d : Dy) : Int := sc d.m d.x
/-- in its form -/
def Ok (d : Dy) : Prop := d.er = 0 ∧ can d.m d.x ∧ inb d.m d.x
theorem DV.good {w : World} {v : Value} {d : Dy} (h : DV w v d) (e : d.er = 0) : Ok d := by
  obtain ⟨b, A, n, c, x, l, -, -, -, -, -, h5, -⟩ := h
  have := h5 e
  exact ⟨e, this.2.2.2.2.1, this.2.2.2.2.2⟩
theorem fin_ok (m x : Int) : Ok (fin m x).d := by
  have h := fin_good m x
  have := h.1 h.2.1
  exact ⟨h.2.1, this.1, this.2⟩
theorem ok_dz : Ok dz := by have := fin_ok 0 0; rwa [fin_zero] at this
theorem add_good (a b : Dy) : Ok (Add a b).d := by
  unfold Add
  split
  · exact ok_dz
  · exact fin_ok _ _
theorem add_ok {a b : Dy} (h : (Add a b).e = 0) (ga : a.er = 0 → Ok a) (gb : b.er = 0 → Ok b) : a.er = 0 ∧ b.er = 0 ∧ S (Add a b).d = S a + S b := by
  unfold Add at h ⊢
  by_cases h0 : ee a.er b.er = 0
  · rw [if_neg (by simpa using h0)] at h ⊢
    have h1 := ee0.1 h0
    have ga := ga h1.1
    have gb := gb h1.2
    have x1 := ga.2.2.2.2.1
    have x2 := gb.2.2.2.2.1
    refine ⟨h1.1, h1.2, ?_⟩
    unfold sum at h ⊢
    unfold S
    rw [fin_sc (by omega) h, sc_add, sc_lv2 a b (by omega)]
    have := sc_lv2 b a (by omega)
    rw [Int.min_comm b.x a.x] at this
    rw [this]
  · rw [if_pos (by simpa using h0)] at h
    exact absurd h h0
/-- a boxed Dyad -/
def BD (W : World) (g : Nat) (b : Bool) (A : Option Addr) (n c : Nat) (x : Int) (d : Dy) : Prop := BX W g b A n c x ∧ DV W (.agg #[.bool b, .slice A n c, .int .i64 x]) d
theorem BD.bx {W : World} {g b A n c x d} (h : BD W g b A n c x d) : BX W g b A n c x := h.1
theorem BD.dv {W : World} {g b A n c x d} (h : BD W g b A n c x d) : DV W (.agg #[.bool b, .slice A n c, .int .i64 x]) d := h.2
theorem BD.below {W W' : World} {g b A n c x d} (h : BD W g b A n c x d) (hb : Below W.heap.size W W') : BD W' g b A n c x d := ⟨h.1.below hb, h.2.below hb⟩
theorem BD.new {W : World} {b A n c x d} (h : DV W (.agg #[.bool b, .slice A n c, .int .i64 x]) d) : BD (W.alloc (.cells #[.bool b, .slice A n c, .int .i64 x] 26)) W.heap.size b A n c x d := ⟨BX.new _ _ _ _ _ _, h.below (al1 _ _)⟩
end DC
end Go.Proofs.YtelblhgagpkjmaaGreatDoor

/-
  Package round: modes, zero, odd, away, a word.
-/
namespace Go.Proofs.YtelblhgagpkjmaaGreatDoor
set_option linter.unusedVariables false
set_option linter.unusedSimpArgs false
open Go.RowKit
set_option linter.unusedVariables false
namespace RC
open L NC NK DC
open Z (Nz Tz cmpv)
theorem isMode_c (m : Int) (w : World) : Calls Tryz.prog 119 #[.int .i64 m] w (fun e w' => e = .returned (.bool (decide (0 ≤ m ∧ m ≤ 4))) ∧ w = w') := by
  by_cases h1 : 0 ≤ m
  · by_cases h2 : m ≤ 4
    · have e : decide (0 ≤ m ∧ m ≤ 4) = true := by simp [h1, h2]
      rw [e]
      clear e
      go_enter Tryz.func119, Tryz.ntmps119
      go_wp2
      go_ret
      exact ⟨ret_bool (by simp), rfl⟩
    · have e : decide (0 ≤ m ∧ m ≤ 4) = false := by simp [h1, h2]
      rw [e]
      clear e
      go_enter Tryz.func119, Tryz.ntmps119
      go_wp2
      go_ret
      exact ⟨ret_bool (by simp), rfl⟩
  · have e : decide (0 ≤ m ∧ m ≤ 4) = false := by simp [h1]
    rw [e]
    clear e
    go_enter Tryz.func119, Tryz.ntmps119
    go_wp2
    go_ret
    exact ⟨ret_bool (by simp), rfl⟩
theorem isZero_c (b : Bool) (A : Option Addr) (n c : Nat) (x : Int) (w : World) : Calls Tryz.prog 134 #[.agg #[.bool b, .slice A n c, .int .i64 x]] w (DC.RetB w (.bool (decide (n = 0)))) := by
  go_enter Tryz.func134, Tryz.ntmps134
  go_wp2
  go_ret
  exact ⟨ret_bool (by by_cases h : n = 0 <;> simp [h]), (Below.refl _ _).alloc (Nat.le_refl _) _⟩
theorem away_c (h m neg odd : Bool) (mode : Int) (w : World) : Calls Tryz.prog 131 #[.agg #[.bool h, .bool m], .bool neg, .bool odd, .int .i64 mode] w (DC.RetB w (.bool (up neg odd h m mode))) := by
  have D : Below w.heap.size w (w.alloc (.cells #[.bool h, .bool m] 143)) := (Below.refl _ _).alloc (Nat.le_refl _) _
  have D := Lib.hid D
  obtain ⟨r, hr⟩ : ∃ r, r = up neg odd h m mode := ⟨_, rfl⟩
  rw [← hr]
  unfold up at hr
  have HR := Lib.hid hr
  clear hr
  by_cases h1 : mode = 1
  · subst h1
    cases h <;> cases m
    all_goals
      go_enter Tryz.func131, Tryz.ntmps131
      go_wp2
      go_ret
      exact ⟨ret_bool (by rw [HR.out]; simp), D.out⟩
  · by_cases h2 : mode = 2
    · subst h2
      cases h <;> cases m
      all_goals
        go_enter Tryz.func131, Tryz.ntmps131
        go_wp2
        go_ret
        exact ⟨ret_bool (by rw [HR.out]; simp), D.out⟩
    · by_cases h3 : mode = 3
      · subst h3
        cases h <;> cases m
        all_goals
          go_enter Tryz.func131, Tryz.ntmps131
          go_wp2
          go_ret
          exact ⟨ret_bool (by rw [HR.out]; simp), D.out⟩
      · by_cases h0 : mode = 0
        · subst h0
          cases h <;> cases m <;> cases odd
          all_goals
            go_enter Tryz.func131, Tryz.ntmps131
            go_wp2
            go_ret
            exact ⟨ret_bool (by rw [HR.out]; simp), D.out⟩
        · have e1 : (mode == 1) = false := by simp [h1]
          have e2 : (mode == 2) = false := by simp [h2]
          have e3 : (mode == 3) = false := by simp [h3]
          have e0 : (mode == 0) = false := by simp [h0]
          have H : Hid (mode ≠ 0 ∧ mode ≠ 1 ∧ mode ≠ 2 ∧ mode ≠ 3) := ⟨h0, h1, h2, h3⟩
          clear h0 h1 h2 h3
          cases h <;> cases m
          all_goals
            go_enter Tryz.func131, Tryz.ntmps131
            go_wp2
            go_ret
            exact ⟨ret_bool (by obtain ⟨a, b, c, d⟩ := H.out; rw [HR.out]; simp [a, b, c, d]), D.out⟩
theorem or_limbs (a b : Int) (h0 : 0 ≤ a) (h1 : a < 4294967296) (h2 : 0 ≤ b) (h3 : b < 4294967296) : bits .or .u64 a (b * 4294967296) = a + b * 4294967296 := by
  rw [u64_or _ _ h0 (by omega) (by omega) (by omega), Nat.or_comm, nat_join 32 _ _ (by omega) (by omega)]
  omega
end RC
end Go.Proofs.YtelblhgagpkjmaaGreatDoor

/-
  Package round: split.
-/
namespace Go.Proofs.YtelblhgagpkjmaaGreatDoor
set_option linter.unusedVariables false
set_option linter.unusedSimpArgs false
open Go.RowKit
set_option linter.unusedVariables false
namespace RC
open L NC NK DC
open Z (Nz Tz cmpv)
theorem pow_12800 : (4294967296 : Int) ^ 400 = 2 ^ 12800 := by
  rw [show (4294967296 : Int) = 2 ^ 32 by decide, ← Int.pow_mul]
theorem pow2_le {a b : Nat} (h : a ≤ b) : (2 : Int) ^ a ≤ 2 ^ b := by
  obtain ⟨d, rfl⟩ : ∃ d, b = a + d := ⟨b - a, by omega⟩
  rw [Int.pow_add]
  have h1 := two_pos' a
  have h2 := two_pos' d
  have := Int.mul_le_mul_of_nonneg_left (show (1 : Int) ≤ 2 ^ d by omega) (Int.le_of_lt h1)
  omega
/-- moved far down: nothing stays -/
theorem sh_far {z k k' : Int} (h0 : 0 ≤ z) (hz : z < 4294967296 ^ 400) (h1 : k ≤ -20000) (h2 : k' ≤ -20000) : sh z k = sh z k' ∧ lo z k = lo z k' := by
  have key : ∀ k : Int, k ≤ -20000 → sh z k = 0 ∧ lo z k = decide (z ≠ 0) := fun k hk => by
    have hp : z < 2 ^ (-k).toNat := by
      rw [pow_12800] at hz
      exact Int.lt_of_lt_of_le hz (pow2_le (by omega))
    unfold sh lo
    rw [if_neg (by omega), if_neg (by omega), Int.ediv_eq_zero_of_lt h0 hp, Int.emod_eq_of_lt h0 hp]
    exact ⟨rfl, rfl⟩
  obtain ⟨a, b⟩ := key k h1
  obtain ⟨c, d⟩ := key k' h2
  exact ⟨a.trans c.symm, b.trans d.symm⟩
theorem sh_max {z n : Int} (h0 : 0 ≤ z) (hz : z < 4294967296 ^ 400) : sh z (max n (-20000)) = sh z n ∧ lo z (max n (-20000)) = lo z n := by
  by_cases h : -20000 ≤ n
  · rw [Int.max_eq_left h]; exact ⟨rfl, rfl⟩
  · rw [Int.max_eq_right (by omega)]; exact sh_far h0 hz (by omega) (by omega)
theorem Sh_c {u : Value} {z : Int} {w : World} (h : PV w u 0 z) (k : Int) (h1 : -20000 ≤ k) (h2 : k ≤ 20000) (hT : TabD w) : Calls Tryz.prog 85 #[u, .int .i64 k] w (RetSh w 0 (sh z k) (lo z k)) := by
  unfold sh lo
  by_cases h0 : 0 ≤ k
  · rw [if_pos h0, if_pos h0]
    obtain ⟨n, rfl⟩ := Int.eq_ofNat_of_zero_le h0
    rw [Int.toNat_natCast]
    exact sh_up h n (by omega)
  · rw [if_neg h0, if_neg h0]
    obtain ⟨n, hn⟩ := Int.eq_ofNat_of_zero_le (show 0 ≤ -k by omega)
    rw [hn, Int.toNat_natCast, show k = -(n : Int) by omega]
    exact sh_down h n (by omega) (by omega) hT
theorem Sh_one {u : Value} {z : Int} {w : World} (h : PV w u 0 z) (hT : TabD w) : Calls Tryz.prog 85 #[u, .int .i64 (-1)] w (RetSh w 0 (z / 2) (decide (z % 2 = 1))) := by
  have := sh_down h 1 (by omega) (by omega) hT
  have e : decide (z % 2 ^ 1 ≠ 0) = decide (z % 2 = 1) := by apply decide_eq_decide.2; omega
  rw [e, show z / 2 ^ 1 = z / 2 by omega] at this
  exact this
theorem nv_set2 {w1 : World} {v : Value} {z : Int} {B : Nat} {x0 x1 : Bool} (hv : NV w1 v z) (hblk : Blk w1 B 143 #[.bool x0, .bool x1]) (v0 v1 : Value) :
    NV ((w1.setCell ⟨B, 0, none⟩ v0).setCell ⟨B, 1, none⟩ v1) v z := by
  have s1 := nv_set hv (hblk.at_ 0 rfl) (fun z h => by cases h) v0
  have B1 := hblk.set_ 0 v0
  exact nv_set s1 (u := .bool x1) (B1.at_ 1 (by simp)) (fun z h => by cases h) v1
theorem below2 {w w1 : World} {B : Nat} (hb : Below w.heap.size w w1) (hB : w.heap.size ≤ B) (v0 v1 : Value) : Below w.heap.size w ((w1.setCell ⟨B, 0, none⟩ v0).setCell ⟨B, 1, none⟩ v1) :=
  (hb.setCell hB _).setCell hB _
theorem res2 (w : World) : ∃ W0, w.alloc (.cells #[.bool false, .bool false] 143) = W0 ∧ Below w.heap.size w W0 ∧ W0.heap.size = w.heap.size + 1 ∧
    (∀ W, Below W0.heap.size W0 W → Blk W w.heap.size 143 #[.bool false, .bool false]) :=
  ⟨_, rfl, (Below.refl _ _).alloc (Nat.le_refl _) _, by simp, fun W h => (Blk.new w _ _).below h (Blk.new w 143 #[.bool false, .bool false]).lt⟩
/-- what split tells -/
def RetSp (w : World) (q : Int) (h m : Bool) (e : Ending) (w' : World) : Prop := ∃ A n c, e = .returned (.tuple #[.slice A n c, .agg #[.bool h, .bool m]]) ∧ NV w' (.slice A n c) q ∧ Below w.heap.size w w'
theorem split_c (u : Value) (z n : Int) (w : World) (h : PV w u 0 z) (h1 : -50000 ≤ n) (h2 : n ≤ 19999) (hs : sh z (n + 1) < 4294967296 ^ 400) (hT : TabD w) :
    Calls Tryz.prog 135 #[u, .int .i64 n] w (RetSp w (sh z (n + 1) / 2) (decide (sh z (n + 1) % 2 = 1)) (lo z (n + 1))) := by
  have sm := h.small
  obtain ⟨W0, hW0, D0, ZS, KB⟩ := res2 w
  have e := sh_max (n := n + 1) sm.1 (sm.2 rfl)
  have hp := sh_pos sm.1 (n + 1)
  have i1 : IntKind.i64.wrap (n + 1) = n + 1 := IntWalk.i64_in _ (by omega)
  have S1 : Hid (Calls Tryz.prog 85 #[u, .int .i64 (max (n + 1) (-20000))] W0 (RetSh W0 0 (sh z (n + 1)) (lo z (n + 1)))) := by
    have := Sh_c (h.below D0) (max (n + 1) (-20000)) (by omega) (by omega) (hT.below D0)
    rwa [e.1, e.2] at this
  generalize sh z (n + 1) = H at *
  generalize lo z (n + 1) = m at *
  have S2 : Hid (∀ (W : World) (v : Value), Below W0.heap.size W0 W → NV W v H → Calls Tryz.prog 85 #[v, .int .i64 (-1)] W (RetSh W 0 (H / 2) (decide (H % 2 = 1)))) := fun W v hW hv => by
    have hq := hv.pv (Int.lt_of_lt_of_le hs p400_big)
    rw [show erz H = 0 from if_pos hs] at hq
    exact Sh_one hq ((hT.below D0).below hW)
  obtain ⟨hb, hhb⟩ : ∃ b, decide (H % 2 = 1) = b := ⟨_, rfl⟩
  rw [hhb] at S2 ⊢
  have KB := Lib.hid KB
  have D0 := Lib.hid D0
  have HW0 := Lib.hid hW0
  obtain ⟨k, hk⟩ : ∃ k : Int, max (n + 1) (-20000) = k := ⟨_, rfl⟩
  have HK : Hid (max (n + 1) (-20000) = k) := hk
  clear h h1 hs hT sm e hp hW0 hhb ZS
  rw [hk] at S1
  by_cases hc : -20000 ≤ n + 1
  · have e1 : max (n + 1) (-20000) = n + 1 := Int.max_eq_left hc
    have e2 : k = n + 1 := hk.symm.trans e1
    rw [e2] at S1
    clear hk e2
    go_enter Tryz.func135, Tryz.ntmps135
    go_wp2_with (first
      | (go_at_call 85; rw [HW0.out]; (with_reducible refine (S1.out).mono ?_); rintro e w2 ⟨A2, n2, c2, rfl, hv2, hb2⟩; have D2 := Lib.hid hb2)
      | (go_at_call 85; (with_reducible refine (S2.out _ _ D2.out hv2).mono ?_); rintro e w3 ⟨A3, n3, c3, rfl, hv3, hb3⟩; have D3 := Lib.hid (D2.out.trans (hb3.mono D2.out.size)); have R2 := KB.out _ D3.out; have t0 := R2.at_ 0 rfl; have t1 := R2.at_ 1 rfl; have f0 := R2.frozen 0; have f1 := R2.frozen 1; have R2 := Lib.hid R2))
    exact bodyPost_ret (v := .tuple #[.slice A3 n3 c3, .agg #[.bool hb, .bool m]]) (by simp [results, Tryz.results135, go_sem, t0, t1]) rfl
      ⟨_, _, _, rfl, nv_set2 hv3 R2.out _ _, below2 (D0.out.trans (D3.out.mono D0.out.size)) (Nat.le_refl _) _ _⟩
  · have e1 : max (n + 1) (-20000) = -20000 := Int.max_eq_right (by omega)
    have e2 : k = -20000 := hk.symm.trans e1
    rw [e2] at S1
    clear hk e2
    go_enter Tryz.func135, Tryz.ntmps135
    go_wp2_with (first
      | (go_at_call 85; rw [HW0.out]; (with_reducible refine (S1.out).mono ?_); rintro e w2 ⟨A2, n2, c2, rfl, hv2, hb2⟩; have D2 := Lib.hid hb2)
      | (go_at_call 85; (with_reducible refine (S2.out _ _ D2.out hv2).mono ?_); rintro e w3 ⟨A3, n3, c3, rfl, hv3, hb3⟩; have D3 := Lib.hid (D2.out.trans (hb3.mono D2.out.size)); have R2 := KB.out _ D3.out; have t0 := R2.at_ 0 rfl; have t1 := R2.at_ 1 rfl; have f0 := R2.frozen 0; have f1 := R2.frozen 1; have R2 := Lib.hid R2))
    exact bodyPost_ret (v := .tuple #[.slice A3 n3 c3, .agg #[.bool hb, .bool m]]) (by simp [results, Tryz.results135, go_sem, t0, t1]) rfl
      ⟨_, _, _, rfl, nv_set2 hv3 R2.out _ _, below2 (D0.out.trans (D3.out.mono D0.out.size)) (Nat.le_refl _) _ _⟩
end RC
end Go.Proofs.YtelblhgagpkjmaaGreatDoor

/-
  Package round: a word.
-/
namespace Go.Proofs.YtelblhgagpkjmaaGreatDoor
set_option linter.unusedVariables false
set_option linter.unusedSimpArgs false
open Go.RowKit
set_option linter.unusedVariables false
namespace RC
open L NC NK DC
open Z (Nz Tz cmpv)
theorem or_0 (a : Int) (h0 : 0 ≤ a) (h1 : a < 4294967296) : bits .or .u64 0 a = a := by
  rw [u64_or _ _ (by omega) (by omega) h0 (by omega), show (0 : Int).toNat = 0 from rfl, Nat.zero_or]
  omega
theorem word_c (A : Option Addr) (n c : Nat) (z : Int) (w : World) (hv : NV w (.slice A n c) z) (hz : z < 18446744073709551616) : Calls Tryz.prog 136 #[.slice A n c] w (fun e w' => e = .returned (.int .u64 z) ∧ w = w') := by
  obtain ⟨l, hs, Ll, nl, hl⟩ := hv
  obtain ⟨en, hc⟩ := hs.len_
  have h2 : l.length ≤ 2 := len_le Ll nl (by rw [hl]; exact hz)
  match l, en, h2 with
  | [], en, _ =>
    simp only [lv] at hl
    subst hl
    obtain rfl : n = 0 := en
    clear hs Ll nl hz h2 hc
    go_enter Tryz.func136, Tryz.ntmps136
    go_wp2
    go_loop [8, 3] (fun v u => v = .int .i64 0 ∧ u = .int .u64 0) (fun _ _ => 0)
    case atStart => exact ⟨rfl, rfl⟩
    case round =>
      obtain ⟨rfl, rfl⟩ := hrel
      go_wp2
      go_ret
      exact ⟨rfl, rfl⟩
  | [a], en, _ =>
    have hz1 : a = z := by rw [← hl]; simp [lv]
    subst hz1
    obtain rfl : n = 1 := en
    obtain ⟨ad, c', e, hc', hb', hcell⟩ := hs.at_ 0 (by simp)
    injection e with e1 e2 e3
    subst e1
    rw [show ad.add 0 = ad from rfl, show [a].getD 0 0 = a from rfl] at hcell
    have ha := Ll a (by simp)
    have HO := Lib.hid (or_0 a ha.1 ha.2)
    clear hs Ll nl hz h2 e2 e3 hc' hb' hl
    go_enter Tryz.func136, Tryz.ntmps136
    go_wp2
    go_loop [8, 3] (fun v u => (v = .int .i64 0 ∧ u = .int .u64 0) ∨ (v = .int .i64 1 ∧ u = .int .u64 a)) (fun v _ => (1 - intOf v).toNat)
    case atStart => exact .inl ⟨rfl, rfl⟩
    case round =>
      rcases hrel with ⟨rfl, rfl⟩ | ⟨rfl, rfl⟩
      · go_wp2
        rw [HO.out]
        exact ⟨.inr ⟨rfl, rfl⟩, by simp [intOf]⟩
      · go_wp2
        go_ret
        exact ⟨rfl, rfl⟩
  | [a, b], en, _ =>
    have hz1 : a + b * 4294967296 = z := by rw [← hl]; simp [lv]; omega
    obtain rfl : n = 2 := en
    obtain ⟨ad, c', e, hc', hb', hcell⟩ := hs.at_ 0 (by simp)
    injection e with e1 e2 e3
    subst e1
    rw [show ad.add 0 = ad from rfl, show [a, b].getD 0 0 = a from rfl] at hcell
    obtain ⟨ad2, c', e, hc', hb', hcell2⟩ := hs.at_ 1 (by simp)
    injection e with e1 e2 e3
    injection e1 with e1
    subst e1
    rw [show [a, b].getD 1 0 = b from rfl] at hcell2
    have hcell3 : w.cell? { block := ad.block, off := ad.off + 1 } = some (.int .u32 b) := by simpa [Addr.add] using hcell2
    have ha := Ll a (by simp)
    have hb := Ll b (by simp)
    have HO := Lib.hid (or_0 a ha.1 ha.2)
    have HJ := Lib.hid (or_limbs a b ha.1 ha.2 hb.1 hb.2)
    have HZ := Lib.hid hz1
    clear hs Ll nl hz h2 e2 e3 hc' hb' hl hz1
    go_enter Tryz.func136, Tryz.ntmps136
    go_wp2
    go_loop [8, 3] (fun v u => (v = .int .i64 0 ∧ u = .int .u64 0) ∨ (v = .int .i64 1 ∧ u = .int .u64 a) ∨ (v = .int .i64 2 ∧ u = .int .u64 z)) (fun v _ => (2 - intOf v).toNat)
    case atStart => exact .inl ⟨rfl, rfl⟩
    case round =>
      rcases hrel with ⟨rfl, rfl⟩ | ⟨rfl, rfl⟩ | ⟨rfl, rfl⟩
      · go_wp2
        rw [HO.out]
        exact ⟨.inr (.inl ⟨rfl, rfl⟩), by simp [intOf]⟩
      · go_wp2
        rw [HJ.out, HZ.out]
        exact ⟨.inr (.inr ⟨rfl, rfl⟩), by simp [intOf]⟩
      · go_wp2
        go_ret
        exact ⟨rfl, rfl⟩
end RC
end Go.Proofs.YtelblhgagpkjmaaGreatDoor

