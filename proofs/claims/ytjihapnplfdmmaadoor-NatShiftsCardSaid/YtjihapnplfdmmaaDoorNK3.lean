/-
  NatRing: the walk.
-/
import Derived.Test.YtjihapnplfdmmaaDoorNK2
namespace Go.Proofs.YtjihapnplfdmmaaDoor
open Go.RowKit
set_option linter.unusedVariables false
namespace NK
open L NC
open Z (Nz Tz cmpv)
/-- the result of a sum, a product: its limbs, small enough -/
def RetG (w : World) (er z : Int) (e : Ending) (w' : World) : Prop := ∃ A n c, e = .returned (.tuple #[.slice A n c, .int .i64 er]) ∧ PV w' (.slice A n c) (erz z) z ∧ NV w' (.slice A n c) z ∧ Below w.heap.size w w'
theorem add_gen {u v : Value} {e1 e2 a b E z : Int} (hE : ee e1 e2 = E) (hz : (if E = 0 then a + b else 0) = z) : ∀ W, PV W u e1 a → PV W v e2 b → Calls Tryd.prog 24 #[u, v] W (RetP W E z) := fun W h1 h2 => by
  have h := Add_p h1 h2
  rwa [hE, hz] at h
theorem mul_gen {u v : Value} {e1 e2 a b E z : Int} (hE : ee e1 e2 = E) (hz : (if E = 0 then a * b else 0) = z) : ∀ W, PV W u e1 a → PV W v e2 b → Calls Tryd.prog 28 #[u, v] W (RetP W E z) := fun W h1 h2 => by
  have h := Mul_p h1 h2
  rwa [hE, hz] at h
theorem erz_small {z : Int} (h : erz z = 0) : z < 4294967296 ^ 400 := by
  unfold erz at h
  by_cases h' : z < 4294967296 ^ 400
  · exact h'
  · rw [if_neg h'] at h; cases h
theorem add_bd {e1 e2 a b E z : Int} (hE : ee e1 e2 = E) (hz : (if E = 0 then a + b else 0) = z) (h1 : e1 = 0 → a < 4294967296 ^ 400) (h2 : e2 = 0 → b < 4294967296 ^ 400) (ha : 0 ≤ a) (hb : 0 ≤ b) : 0 ≤ z ∧ z < big3 ∧ (E = 0 → e1 = 0 ∧ e2 = 0 ∧ z = a + b) := by
  by_cases h : E = 0
  · rw [if_pos h] at hz
    rw [h] at hE
    have h3 := ee0.1 hE
    have h4 := big3_bds (h1 h3.1) (h2 h3.2) ha hb
    exact ⟨by omega, by rw [← hz]; exact h4.1, fun _ => ⟨h3.1, h3.2, hz.symm⟩⟩
  · rw [if_neg h] at hz
    exact ⟨by omega, by rw [← hz]; exact big3_pos, fun h' => absurd h' h⟩
theorem mul_bd {e1 e2 a b E z : Int} (hE : ee e1 e2 = E) (hz : (if E = 0 then a * b else 0) = z) (h1 : e1 = 0 → a < 4294967296 ^ 400) (h2 : e2 = 0 → b < 4294967296 ^ 400) (ha : 0 ≤ a) (hb : 0 ≤ b) : 0 ≤ z ∧ z < big3 ∧ (E = 0 → e1 = 0 ∧ e2 = 0 ∧ z = a * b) := by
  by_cases h : E = 0
  · rw [if_pos h] at hz
    rw [h] at hE
    have h3 := ee0.1 hE
    have h4 := big3_bds (h1 h3.1) (h2 h3.2) ha hb
    exact ⟨by rw [← hz]; exact Int.mul_nonneg ha hb, by rw [← hz]; exact h4.2.1, fun _ => ⟨h3.1, h3.2, hz.symm⟩⟩
  · rw [if_neg h] at hz
    exact ⟨by omega, by rw [← hz]; exact big3_pos, fun h' => absurd h' h⟩
theorem bdrew {B : Nat} {w W : World} (h : Below B w W) (k : Nat) : Below B w (W.drewN k) := ⟨h.os, h.tape, h.output, h.size, h.block⟩
theorem bself (w : World) (k : Nat) : Below w.heap.size w (w.drewN k) := ⟨rfl, rfl, rfl, Nat.le_refl _, fun _ _ => rfl⟩
theorem ee_comm0 {a b : Int} : ee a b = 0 ↔ ee b a = 0 := by rw [ee0, ee0, and_comm]
/-- what is told of equal limbs, as a bool with a name -/
theorem equal_gen {s t : Value} {y z : Int} {W : World} (hs : NV W s y) (ht : NV W t z) (h : y = z) (b1 : y < big3) : Calls Tryd.prog 26 #[s, t] W (RetQ W (.bool true)) := by
  subst h
  exact Equal_0 hs ht b1
theorem ok4 (W : World) (x1 x2 x3 x4 : Int) (o : Bool) (ho : [x1, x2, x3, x4].all (· == 0) = o) : Calls Tryd.prog 27 #[.slice (some ⟨W.heap.size, 0, none⟩) 4 4] (W.alloc (.cells #[.int .i64 x1, .int .i64 x2, .int .i64 x3, .int .i64 x4] 23)) fun e w' => e = .returned (.bool o) ∧ W.alloc (.cells #[.int .i64 x1, .int .i64 x2, .int .i64 x3, .int .i64 x4] 23) = w' := by
  have h1 := ok_lit W [x1, x2, x3, x4] (by simp)
  rw [ho] at h1
  exact h1
theorem ok5 (W : World) (x1 x2 x3 x4 x5 : Int) (o : Bool) (ho : [x1, x2, x3, x4, x5].all (· == 0) = o) : Calls Tryd.prog 27 #[.slice (some ⟨W.heap.size, 0, none⟩) 5 5] (W.alloc (.cells #[.int .i64 x1, .int .i64 x2, .int .i64 x3, .int .i64 x4, .int .i64 x5] 23)) fun e w' => e = .returned (.bool o) ∧ W.alloc (.cells #[.int .i64 x1, .int .i64 x2, .int .i64 x3, .int .i64 x4, .int .i64 x5] 23) = w' := by
  have h1 := ok_lit W [x1, x2, x3, x4, x5] (by simp)
  rw [ho] at h1
  exact h1
set_option maxRecDepth 100000 in
set_option maxHeartbeats 16000000 in
theorem ring_c (u v t : Value) (e1 e2 e3 a b c : Int) (w : World) (hu : PV w u e1 a) (hv : PV w v e2 b) (ht : PV w t e3 c) (fu : ∃ A n c, u = .slice A n c) (fv : ∃ A n c, v = .slice A n c) (ft : ∃ A n c, t = .slice A n c) :
    Calls Tryd.prog 4 #[u, v, t] w fun e w' => e = .returned (.bool true) ∧ Below w.heap.size w w' := by
  obtain ⟨A, n, cu, rfl⟩ := fu
  obtain ⟨B, m, cv, rfl⟩ := fv
  obtain ⟨C, l, ct, rfl⟩ := ft
  have LV := Lib.hid lives_c
  have sa := hu.small
  have sb := hv.small
  have sc := ht.small
  obtain ⟨E1, hE1⟩ : ∃ E, ee e1 e2 = E := ⟨_, rfl⟩
  obtain ⟨z1, hz1⟩ : ∃ z, (if E1 = 0 then a + b else 0) = z := ⟨_, rfl⟩
  obtain ⟨E2, hE2⟩ : ∃ E, ee e2 e1 = E := ⟨_, rfl⟩
  obtain ⟨z2, hz2⟩ : ∃ z, (if E2 = 0 then b + a else 0) = z := ⟨_, rfl⟩
  obtain ⟨E3, hE3⟩ : ∃ E, ee e2 e3 = E := ⟨_, rfl⟩
  obtain ⟨z3, hz3⟩ : ∃ z, (if E3 = 0 then b + c else 0) = z := ⟨_, rfl⟩
  obtain ⟨E4, hE4⟩ : ∃ E, ee (erz z1) e3 = E := ⟨_, rfl⟩
  obtain ⟨z4, hz4⟩ : ∃ z, (if E4 = 0 then z1 + c else 0) = z := ⟨_, rfl⟩
  obtain ⟨E5, hE5⟩ : ∃ E, ee e1 (erz z3) = E := ⟨_, rfl⟩
  obtain ⟨z5, hz5⟩ : ∃ z, (if E5 = 0 then a + z3 else 0) = z := ⟨_, rfl⟩
  obtain ⟨z6, hz6⟩ : ∃ z, (if E1 = 0 then a * b else 0) = z := ⟨_, rfl⟩
  obtain ⟨z7, hz7⟩ : ∃ z, (if E2 = 0 then b * a else 0) = z := ⟨_, rfl⟩
  obtain ⟨z8, hz8⟩ : ∃ z, (if E3 = 0 then b * c else 0) = z := ⟨_, rfl⟩
  obtain ⟨E9, hE9⟩ : ∃ E, ee (erz z6) e3 = E := ⟨_, rfl⟩
  obtain ⟨z9, hz9⟩ : ∃ z, (if E9 = 0 then z6 * c else 0) = z := ⟨_, rfl⟩
  obtain ⟨E10, hE10⟩ : ∃ E, ee e1 (erz z8) = E := ⟨_, rfl⟩
  obtain ⟨z10, hz10⟩ : ∃ z, (if E10 = 0 then a * z8 else 0) = z := ⟨_, rfl⟩
  obtain ⟨z11, hz11⟩ : ∃ z, (if E5 = 0 then a * z3 else 0) = z := ⟨_, rfl⟩
  obtain ⟨E12, hE12⟩ : ∃ E, ee e1 e3 = E := ⟨_, rfl⟩
  obtain ⟨z12, hz12⟩ : ∃ z, (if E12 = 0 then a * c else 0) = z := ⟨_, rfl⟩
  obtain ⟨E13, hE13⟩ : ∃ E, ee (erz z6) (erz z12) = E := ⟨_, rfl⟩
  obtain ⟨z13, hz13⟩ : ∃ z, (if E13 = 0 then z6 + z12 else 0) = z := ⟨_, rfl⟩
  obtain ⟨o1, ho1⟩ : ∃ o, [E1, E3, E4, E5].all (· == 0) = o := ⟨_, rfl⟩
  obtain ⟨o2, ho2⟩ : ∃ o, [E1, E3, E9, E10].all (· == 0) = o := ⟨_, rfl⟩
  obtain ⟨o3, ho3⟩ : ∃ o, [E3, E5, E1, E12, E13].all (· == 0) = o := ⟨_, rfl⟩
  have q1 := add_bd hE1 hz1 sa.2 sb.2 sa.1 sb.1
  have q2 := add_bd hE2 hz2 sb.2 sa.2 sb.1 sa.1
  have q3 := add_bd hE3 hz3 sb.2 sc.2 sb.1 sc.1
  have q4 := add_bd hE4 hz4 erz_small sc.2 q1.1 sc.1
  have q5 := add_bd hE5 hz5 sa.2 erz_small sa.1 q3.1
  have q6 := mul_bd hE1 hz6 sa.2 sb.2 sa.1 sb.1
  have q7 := mul_bd hE2 hz7 sb.2 sa.2 sb.1 sa.1
  have q8 := mul_bd hE3 hz8 sb.2 sc.2 sb.1 sc.1
  have q9 := mul_bd hE9 hz9 erz_small sc.2 q6.1 sc.1
  have q10 := mul_bd hE10 hz10 sa.2 erz_small sa.1 q8.1
  have q11 := mul_bd hE5 hz11 sa.2 erz_small sa.1 q3.1
  have q12 := mul_bd hE12 hz12 sa.2 sc.2 sa.1 sc.1
  have q13 := add_bd hE13 hz13 erz_small erz_small q6.1 q12.1
  have h12 : E1 = 0 ↔ E2 = 0 := by rw [← hE1, ← hE2]; exact ee_comm0
  have F12 : Hid (z1 = z2) := by
    show _ = _
    by_cases h : E1 = 0
    · rw [(q1.2.2 h).2.2, (q2.2.2 (h12.1 h)).2.2]; omega
    · rw [← hz1, ← hz2, if_neg h, if_neg (fun e => h (h12.2 e))]
  have F67 : Hid (z6 = z7) := by
    show _ = _
    by_cases h : E1 = 0
    · rw [(q6.2.2 h).2.2, (q7.2.2 (h12.1 h)).2.2]; grind
    · rw [← hz6, ← hz7, if_neg h, if_neg (fun e => h (h12.2 e))]
  have F45 : Hid (o1 = true → z4 = z5) := fun h => by
    rw [h] at ho1
    simp only [List.all_cons, List.all_nil, Bool.and_true, Bool.and_eq_true, beq_iff_eq] at ho1
    obtain ⟨g1, g3, g4, g5⟩ := ho1
    rw [(q4.2.2 g4).2.2, (q5.2.2 g5).2.2, (q1.2.2 g1).2.2, (q3.2.2 g3).2.2]; omega
  have F910 : Hid (o2 = true → z9 = z10) := fun h => by
    rw [h] at ho2
    simp only [List.all_cons, List.all_nil, Bool.and_true, Bool.and_eq_true, beq_iff_eq] at ho2
    obtain ⟨g1, g3, g4, g5⟩ := ho2
    rw [(q9.2.2 g4).2.2, (q10.2.2 g5).2.2, (q6.2.2 g1).2.2, (q8.2.2 g3).2.2]; grind
  have F1113 : Hid (o3 = true → z11 = z13) := fun h => by
    rw [h] at ho3
    simp only [List.all_cons, List.all_nil, Bool.and_true, Bool.and_eq_true, beq_iff_eq] at ho3
    obtain ⟨g3, g5, g1, g12, g13⟩ := ho3
    rw [(q11.2.2 g5).2.2, (q13.2.2 g13).2.2, (q3.2.2 g3).2.2, (q6.2.2 g1).2.2, (q12.2.2 g12).2.2]; grind
  have BB : Hid ((E1 == 0) = (E2 == 0)) := by
    show (E1 == 0) = (E2 == 0)
    by_cases h : E1 = 0
    · rw [h, h12.1 h]
    · have h' : E2 ≠ 0 := fun e => h (h12.2 e)
      have g1 : (E1 == 0) = false := by simp [h]
      have g2 : (E2 == 0) = false := by simp [h']
      rw [g1, g2]
  have C1 := Lib.hid (add_gen (u := .slice A n cu) (v := .slice B m cv) hE1 hz1)
  have C2 := Lib.hid (add_gen (u := .slice B m cv) (v := .slice A n cu) hE2 hz2)
  have C3 := Lib.hid (add_gen (u := .slice B m cv) (v := .slice C l ct) hE3 hz3)
  have C4 : Hid (∀ u W, PV W u (erz z1) z1 → PV W (.slice C l ct) e3 c → Calls Tryd.prog 24 #[u, .slice C l ct] W (RetP W E4 z4)) := fun u => add_gen hE4 hz4
  have C5 : Hid (∀ u W, PV W (.slice A n cu) e1 a → PV W u (erz z3) z3 → Calls Tryd.prog 24 #[.slice A n cu, u] W (RetP W E5 z5)) := fun u => add_gen hE5 hz5
  have C6 := Lib.hid (mul_gen (u := .slice A n cu) (v := .slice B m cv) hE1 hz6)
  have C7 := Lib.hid (mul_gen (u := .slice B m cv) (v := .slice A n cu) hE2 hz7)
  have C8 := Lib.hid (mul_gen (u := .slice B m cv) (v := .slice C l ct) hE3 hz8)
  have C9 : Hid (∀ u W, PV W u (erz z6) z6 → PV W (.slice C l ct) e3 c → Calls Tryd.prog 28 #[u, .slice C l ct] W (RetP W E9 z9)) := fun u => mul_gen hE9 hz9
  have C10 : Hid (∀ u W, PV W (.slice A n cu) e1 a → PV W u (erz z8) z8 → Calls Tryd.prog 28 #[.slice A n cu, u] W (RetP W E10 z10)) := fun u => mul_gen hE10 hz10
  have C11 : Hid (∀ u W, PV W (.slice A n cu) e1 a → PV W u (erz z3) z3 → Calls Tryd.prog 28 #[.slice A n cu, u] W (RetP W E5 z11)) := fun u => mul_gen hE5 hz11
  have C12 := Lib.hid (mul_gen (u := .slice A n cu) (v := .slice C l ct) hE12 hz12)
  have C13 : Hid (∀ u v W, PV W u (erz z6) z6 → PV W v (erz z12) z12 → Calls Tryd.prog 24 #[u, v] W (RetP W E13 z13)) := fun u v => add_gen hE13 hz13
  have HA : Hid (∀ W, Below w.heap.size w W → PV W (.slice A n cu) e1 a) := fun W h => hu.below h
  have HB : Hid (∀ W, Below w.heap.size w W → PV W (.slice B m cv) e2 b) := fun W h => hv.below h
  have HC : Hid (∀ W, Below w.heap.size w W → PV W (.slice C l ct) e3 c) := fun W h => ht.below h
  have O1 := Lib.hid (fun W => ok4 W _ _ _ _ o1 ho1)
  have O2 := Lib.hid (fun W => ok4 W _ _ _ _ o2 ho2)
  have O3 := Lib.hid (fun W => ok5 W _ _ _ _ _ o3 ho3)
  have G1 := Lib.hid q1.2.1
  have G4 := Lib.hid q4.2.1
  have G6 := Lib.hid q6.2.1
  have G9 := Lib.hid q9.2.1
  have G11 := Lib.hid q11.2.1
  clear q1 q2 q3 q4 q5 q6 q7 q8 q9 q10 q11 q12 q13 sa sb sc hu hv ht hE1 hE2 hE3 hE4 hE5 hE9 hE10 hE12 hE13 hz1 hz2 hz3 hz4 hz5 hz6 hz7 hz8 hz9 hz10 hz11 hz12 hz13 ho1 ho2 ho3 h12
  cases o1 <;> cases o2 <;> cases o3
  all_goals
    go_enter Tryd.func4, Tryd.ntmps4
    go_wp2_with (first
      | (go_at_call 24; (with_reducible refine (C1.out w (HA.out _ (Below.refl _ _)) (HB.out _ (Below.refl _ _))).mono ?_); rintro e w1 ⟨A1, n1, c1, rfl, p1, v1, b1⟩)
      | (go_at_call 24; (with_reducible refine (C2.out w1 (HB.out _ b1) (HA.out _ b1)).mono ?_); rintro e w2 ⟨A2, n2, c2, rfl, p2, v2, b2⟩; have p1 := p1.below b2; have v1 := v1.below b2; have B2 := b1.trans (b2.mono b1.size))
      | (go_at_call 24; (with_reducible refine (C3.out w2 (HB.out _ B2) (HC.out _ B2)).mono ?_); rintro e w3 ⟨A3, n3, c3, rfl, p3, v3, b3⟩; have p1 := p1.below b3; have v1 := v1.below b3; have v2 := v2.below b3; have B3 := B2.trans (b3.mono B2.size))
      | (go_at_call 24; (with_reducible refine (C4.out _ w3 p1 (HC.out _ B3)).mono ?_); rintro e w4 ⟨A4, n4, c4, rfl, p4, v4, b4⟩; have v1 := v1.below b4; have v2 := v2.below b4; have p3 := p3.below b4; have B4 := B3.trans (b4.mono B3.size))
      | (go_at_call 24; (with_reducible refine (C5.out _ w4 (HA.out _ B4) p3).mono ?_); rintro e w5 ⟨A5, n5, c5, rfl, p5, v5, b5⟩; have v1 := v1.below b5; have v2 := v2.below b5; have p3 := p3.below b5; have v4 := v4.below b5; have B5 := B4.trans (b5.mono B4.size))
      | (go_at_call 25; (with_reducible refine (LV.out w5).mono ?_); rintro e w6 ⟨rfl, b6⟩; have v1 := v1.below b6; have v2 := v2.below b6; have p3 := p3.below b6; have v4 := v4.below b6; have v5 := v5.below b6; have B6 := B5.trans (b6.mono B5.size))
      | (go_at_call 26; (with_reducible refine (equal_gen (W := w6) v1 v2 F12.out G1.out).mono ?_); rintro e w7 ⟨rfl, k7, hw7⟩; have b7 : Below w6.heap.size w6 w7 := (by rw [hw7]; exact bself _ _); clear hw7; have p3 := p3.below b7; have v4 := v4.below b7; have v5 := v5.below b7; have B7 := B6.trans (b7.mono B6.size))
      | (go_at_call 27; (with_reducible refine (O1.out w7).mono ?_); rintro e w8 ⟨rfl, hw8⟩; have b8 : Below w7.heap.size w7 w8 := (by rw [← hw8]; exact lit_below _ _); clear hw8; have p3 := p3.below b8; have v4 := v4.below b8; have v5 := v5.below b8; have B8 := B7.trans (b8.mono B7.size))
      | (go_at_call 26; (with_reducible refine (equal_gen (W := w8) v4 v5 (F45.out (by first | trivial | rfl)) G4.out).mono ?_); rintro e w9 ⟨rfl, k9, rfl⟩)
      | (go_at_call 28; (with_reducible refine (C6.out _ (HA.out _ (by first | exact B8 | exact bdrew B8 _)) (HB.out _ (by first | exact B8 | exact bdrew B8 _))).mono ?_); rintro e w10 ⟨A10, n10, c10, rfl, p10, v10, b10⟩; have b10 : Below w8.heap.size w8 w10 := (by first | exact b10 | exact undrewN b10); have p3 := p3.below b10; have B10 := B8.trans (b10.mono B8.size))
      | (go_at_call 28; (with_reducible refine (C7.out w10 (HB.out _ B10) (HA.out _ B10)).mono ?_); rintro e w11 ⟨A11, n11, c11, rfl, p11, v11, b11⟩; have p3 := p3.below b11; have p10 := p10.below b11; have v10 := v10.below b11; have B11 := B10.trans (b11.mono B10.size))
      | (go_at_call 28; (with_reducible refine (C8.out w11 (HB.out _ B11) (HC.out _ B11)).mono ?_); rintro e w12 ⟨A12, n12, c12, rfl, p12, v12, b12⟩; have p3 := p3.below b12; have p10 := p10.below b12; have v10 := v10.below b12; have v11 := v11.below b12; have B12 := B11.trans (b12.mono B11.size))
      | (go_at_call 28; (with_reducible refine (C9.out _ w12 p10 (HC.out _ B12)).mono ?_); rintro e w13 ⟨A13, n13, c13, rfl, p13, v13, b13⟩; have p3 := p3.below b13; have p10 := p10.below b13; have v10 := v10.below b13; have v11 := v11.below b13; have p12 := p12.below b13; have B13 := B12.trans (b13.mono B12.size))
      | (go_at_call 28; (with_reducible refine (C10.out _ w13 (HA.out _ B13) p12).mono ?_); rintro e w14 ⟨A14, n14, c14, rfl, p14, v14, b14⟩; have p3 := p3.below b14; have p10 := p10.below b14; have v10 := v10.below b14; have v11 := v11.below b14; have v13 := v13.below b14; have B14 := B13.trans (b14.mono B13.size))
      | (go_at_call 26; (with_reducible refine (equal_gen (W := w14) v10 v11 F67.out G6.out).mono ?_); rintro e w15 ⟨rfl, k15, hw15⟩; have b15 : Below w14.heap.size w14 w15 := (by rw [hw15]; exact bself _ _); clear hw15; have p3 := p3.below b15; have p10 := p10.below b15; have v13 := v13.below b15; have v14 := v14.below b15; have B15 := B14.trans (b15.mono B14.size))
      | (go_at_call 27; (with_reducible refine (O2.out w15).mono ?_); rintro e w16 ⟨rfl, hw16⟩; have b16 : Below w15.heap.size w15 w16 := (by rw [← hw16]; exact lit_below _ _); clear hw16; have p3 := p3.below b16; have p10 := p10.below b16; have v13 := v13.below b16; have v14 := v14.below b16; have B16 := B15.trans (b16.mono B15.size))
      | (go_at_call 26; (with_reducible refine (equal_gen (W := w16) v13 v14 (F910.out (by first | trivial | rfl)) G9.out).mono ?_); rintro e w17 ⟨rfl, k17, rfl⟩)
      | (go_at_call 28; (with_reducible refine (C11.out _ _ (HA.out _ (by first | exact B16 | exact bdrew B16 _)) (by first | exact p3 | exact p3.drewN _)).mono ?_); rintro e w18 ⟨A18, n18, c18, rfl, p18, v18, b18⟩; have b18 : Below w16.heap.size w16 w18 := (by first | exact b18 | exact undrewN b18); have p10 := p10.below b18; have B18 := B16.trans (b18.mono B16.size))
      | (go_at_call 28; (with_reducible refine (C12.out w18 (HA.out _ B18) (HC.out _ B18)).mono ?_); rintro e w19 ⟨A19, n19, c19, rfl, p19, v19, b19⟩; have p10 := p10.below b19; have v18 := v18.below b19; have B19 := B18.trans (b19.mono B18.size))
      | (go_at_call 24; (with_reducible refine (C13.out _ _ w19 p10 p19).mono ?_); rintro e w20 ⟨A20, n20, c20, rfl, p20, v20, b20⟩; have v18 := v18.below b20; have B20 := B19.trans (b20.mono B19.size))
      | (go_at_call 27; (with_reducible refine (O3.out w20).mono ?_); rintro e w21 ⟨rfl, hw21⟩; have b21 : Below w20.heap.size w20 w21 := (by rw [← hw21]; exact lit_below _ _); clear hw21; have v18 := v18.below b21; have v20 := v20.below b21; have B21 := B20.trans (b21.mono B20.size))
      | (go_at_call 26; (with_reducible refine (equal_gen (W := w21) v18 v20 (F1113.out (by first | trivial | rfl)) G11.out).mono ?_); rintro e w22 ⟨rfl, k22, rfl⟩))
    go_ret
    exact ⟨rfl, by first | exact B21 | exact bdrew B21 _⟩
    all_goals (refine absurd BB.out ?_; assumption)
end NK
end Go.Proofs.YtjihapnplfdmmaaDoor
