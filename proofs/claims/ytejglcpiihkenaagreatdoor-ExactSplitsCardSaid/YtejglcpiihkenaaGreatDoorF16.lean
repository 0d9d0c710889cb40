/-
  Texts glued together for a claim: P4 P5 P6.
-/
import Derived.Test.YtejglcpiihkenaaGreatDoorF12
import Derived.Test.YtejglcpiihkenaaGreatDoorF8
/-
  Package prod, pure: Dot.
-/
namespace Go.Proofs.YtejglcpiihkenaaGreatDoor
set_option linter.unusedVariables false
set_option linter.unusedSimpArgs false
open Go.RowKit
set_option linter.unusedVariables false
set_option linter.unusedSimpArgs false
namespace PC
open L NC NK DC RC SC
/-- the sum of products, by Dyads and by values -/
def pt : List Int → Dy → Dy
  | x :: y :: t, d => pt t (DC.Add d (PD x y).d).d
  | [_], d => d
  | [], d => d
def ps : List Int → Int
  | x :: y :: t => S (PD x y).d + ps t
  | [_] => 0
  | [] => 0
/-- is there one that has no value -/
def nf (L : List Int) : Bool := L.any fun x => F.exq x == 2047
noncomputable def DT (L : List Int) (mode : Int) : Int × Bool × Int :=
  if ¬ (0 ≤ mode ∧ mode ≤ 4) then (0, false, 1)
  else if L.length % 2 ≠ 0 then (0, false, 3)
  else if 200 < L.length then (0, false, 2)
  else if nf L = true then (0, false, 4)
  else (TX (pt L dz) mode, TL (pt L dz) mode, 0)
theorem pt_append : ∀ (a b : List Int) (d : Dy), a.length % 2 = 0 → pt (a ++ b) d = pt b (pt a d)
  | [], b, d, _ => by simp [pt]
  | [x], b, d, h => by simp at h
  | x :: y :: t, b, d, h => by
    simp only [List.cons_append, pt]
    exact pt_append t b _ (by simp at h; omega)
theorem ps_append : ∀ (a b : List Int), a.length % 2 = 0 → ps (a ++ b) = ps a + ps b
  | [], b, _ => by simp [ps]
  | [x], b, h => by simp at h
  | x :: y :: t, b, h => by
    simp only [List.cons_append, ps]
    rw [ps_append t b (by simp at h; omega)]
    omega
theorem ps_rev : ∀ (a : List Int), a.length % 2 = 0 → (∀ x ∈ a, fi x) → ps a.reverse = ps a
  | [], _, _ => rfl
  | [x], h, _ => by simp at h
  | x :: y :: t, h, hf => by
    have ht : t.length % 2 = 0 := by simp at h; omega
    have e : (x :: y :: t).reverse = t.reverse ++ [y, x] := by simp
    rw [e, ps_append _ _ (by simpa using ht), ps_rev t ht fun z hz => hf z (by simp [hz])]
    have c := pd_comm (hf x (by simp)) (hf y (by simp))
    simp only [ps]
    rw [c]; omega
theorem pt_fit : ∀ (L : List Int) (d : Dy) (k : Int), (∀ x ∈ L, fi x) → FitP d k → k + L.length ≤ 256 → FitP (pt L d) (k + L.length) ∧ S (pt L d) = S d + ps L
  | [], d, k, _, h, _ => ⟨by simpa [pt] using h, by simp [pt, ps]⟩
  | [x], d, k, _, h, _ => ⟨by simpa [pt] using fitP_mono h (show k ≤ k + 1 by omega), by simp [pt, ps]⟩
  | x :: y :: t, d, k, hL, h, hk => by
    rw [List.length_cons, List.length_cons] at hk
    have p := (pd_p (hL x (by simp)) (hL y (by simp)) rfl).2.1
    obtain ⟨-, a2, a3⟩ := add_fitP h p (by omega)
    obtain ⟨b1, b2⟩ := pt_fit t (DC.Add d (PD x y).d).d (k + 1) (fun z hz => hL z (by simp [hz])) a2 (by omega)
    refine ⟨?_, ?_⟩
    · rw [List.length_cons, List.length_cons]
      exact fitP_mono b1 (by omega)
    · show S (pt t (DC.Add d (PD x y).d).d) = S d + (S (PD x y).d + ps t)
      rw [b2, a3]; omega
theorem pt_ok {L : List Int} (h : ∀ x ∈ L, fi x) (hl : ¬ 200 < L.length) : Ok (pt L dz) ∧ S (pt L dz) = ps L := by
  have := pt_fit L dz 0 h fitP_zero (by omega)
  refine ⟨this.1.ok, ?_⟩
  rw [this.2, show S dz = 0 from sc_zero.2 rfl]; omega
theorem nf_fi {L : List Int} (hu : u64s L) : nf L = false ↔ ∀ x ∈ L, fi x := by
  unfold nf
  rw [List.any_eq_false]
  constructor
  · intro h x hx; exact ⟨(hu x hx).1, (hu x hx).2, by simpa using h x hx⟩
  · intro h x hx; simpa using (h x hx).2.2
theorem DT_no {L : List Int} {mode : Int} (h : ¬ (0 ≤ mode ∧ mode ≤ 4)) : DT L mode = (0, false, 1) := by unfold DT; rw [if_pos h]
theorem DT_odd {L : List Int} {mode : Int} (hm : 0 ≤ mode ∧ mode ≤ 4) (h : L.length % 2 ≠ 0) : DT L mode = (0, false, 3) := by unfold DT; rw [if_neg (by simpa using hm), if_pos h]
theorem DT_large {L : List Int} {mode : Int} (hm : 0 ≤ mode ∧ mode ≤ 4) (h : L.length % 2 = 0) (h2 : 200 < L.length) : DT L mode = (0, false, 2) := by unfold DT; rw [if_neg (by simpa using hm), if_neg (by simpa using h), if_pos h2]
theorem DT_nf {L : List Int} {mode : Int} (hm : 0 ≤ mode ∧ mode ≤ 4) (h : L.length % 2 = 0) (h2 : ¬ 200 < L.length) (h3 : nf L = true) : DT L mode = (0, false, 4) := by unfold DT; rw [if_neg (by simpa using hm), if_neg (by simpa using h), if_neg h2, if_pos h3]
theorem DT_fi {L : List Int} {mode : Int} (hm : 0 ≤ mode ∧ mode ≤ 4) (h : L.length % 2 = 0) (h2 : ¬ 200 < L.length) (h3 : nf L = false) : DT L mode = (TX (pt L dz) mode, TL (pt L dz) mode, 0) := by unfold DT; rw [if_neg (by simpa using hm), if_neg (by simpa using h), if_neg h2, if_neg (by rw [h3]; simp)]
theorem DT_cases {L : List Int} {mode : Int} : ((DT L mode).2.2 ≠ 0 ∧ (DT L mode).1 = 0) ∨ ((DT L mode).2.2 = 0 ∧ (0 ≤ mode ∧ mode ≤ 4) ∧ L.length % 2 = 0 ∧ ¬ 200 < L.length ∧ nf L = false) := by
  by_cases hm : 0 ≤ mode ∧ mode ≤ 4
  · by_cases h : L.length % 2 = 0
    · by_cases h2 : 200 < L.length
      · left; rw [DT_large hm h h2]; decide
      · cases h3 : nf L
        · right; rw [DT_fi hm h h2 h3]; exact ⟨rfl, hm, h, h2, rfl⟩
        · left; rw [DT_nf hm h h2 h3]; decide
    · left; rw [DT_odd hm h]; decide
  · left; rw [DT_no hm]; decide
theorem nf_rev (L : List Int) : nf L.reverse = nf L := by unfold nf; simp
theorem dot_rev {L : List Int} {mode : Int} (hu : u64s L) : DT L.reverse mode = DT L mode := by
  by_cases hm : 0 ≤ mode ∧ mode ≤ 4
  · by_cases h : L.length % 2 = 0
    · by_cases h2 : 200 < L.length
      · rw [DT_large hm h h2, DT_large hm (by simpa using h) (by simpa using h2)]
      · cases h3 : nf L
        · have f := (nf_fi hu).1 h3
          have f' : ∀ x ∈ L.reverse, fi x := fun x hx => f x (by simpa using hx)
          have a := pt_ok f h2
          have b := pt_ok f' (by simpa using h2)
          have e : pt L.reverse dz = pt L dz := S_inj b.1 a.1 (by rw [a.2, b.2, ps_rev L h f])
          rw [DT_fi hm h h2 h3, DT_fi hm (by simpa using h) (by simpa using h2) (by rw [nf_rev]; exact h3), e]
        · rw [DT_nf hm h h2 h3, DT_nf hm (by simpa using h) (by simpa using h2) (by rw [nf_rev]; exact h3)]
    · rw [DT_odd hm h, DT_odd hm (by simpa using h)]
  · rw [DT_no hm, DT_no hm]
theorem DT_bd {L : List Int} (mode : Int) (hu : u64s L) : 0 ≤ (DT L mode).1 ∧ (DT L mode).1 ≤ 18446744073709551615 := by
  rcases DT_cases (L := L) (mode := mode) with ⟨-, h⟩ | ⟨-, hm, h, h2, h3⟩
  · rw [h]; omega
  · rw [DT_fi hm h h2 h3]
    have a := pt_ok ((nf_fi hu).1 h3) h2
    have := TX_bd (pt L dz) mode fun _ => a.1
    exact ⟨this.1, this.2.1⟩
theorem dot_two {x y mode : Int} (hx : 0 ≤ x ∧ x ≤ 18446744073709551615) (hy : 0 ≤ y ∧ y ≤ 18446744073709551615) (h : (DT [x, y] mode).2.2 = 0) :
    ∃ p a b, MT x y mode = (p, b, 0) ∧ DT [x, y] mode = (a, b, 0) ∧ (p = a ∨ (F.cls p = 1 ∧ F.cls a = 1)) := by
  rcases DT_cases (L := [x, y]) (mode := mode) with ⟨h1, -⟩ | ⟨-, hm, h1, h2, h3⟩
  · exact absurd h h1
  · have f := (nf_fi (u2 hx hy)).1 h3
    have fx := f x (by simp)
    have fy := f y (by simp)
    obtain ⟨K, hK⟩ : ∃ K : Nat, K = 60000 := ⟨_, rfl⟩
    have p := pd_p fx fy hK
    have a := pt_ok f h2
    have e : pt [x, y] dz = (PD x y).d := S_inj a.1 p.2.1.ok (by rw [a.2]; simp [ps])
    rw [DT_fi hm h1 h2 h3, e]
    cases hb : (bc x y).2
    · rw [MT_fi hm hb]; exact ⟨_, _, _, rfl, rfl, .inl rfl⟩
    · rw [MT_bc hm hb]
      have c1 := (fi_cls hx).1 fx
      have c2 := (fi_cls hy).1 fy
      have h3 : min (F.cls x) (F.cls y) = 1 := by
        rcases Classical.em (min (F.cls x) (F.cls y) = 1) with h3 | h3
        · exact h3
        · exfalso
          unfold bc at hb
          rw [if_neg (by omega), if_neg (by omega), if_neg h3] at hb
          cases hb
      have eb : bc x y = (sp x y, true) := by
        unfold bc
        rw [if_neg (by omega), if_neg (by omega), if_pos h3]
      have h0 : S (PD x y).d = 0 := by
        apply K_inj (K := K)
        rw [p.2.2, Int.zero_mul, Int.mul_eq_zero, val0 fx, val0 fy]
        omega
      have k := TX0 hm p.2.1.ok h0
      rw [eb, k.1, k.2]
      refine ⟨_, _, _, rfl, rfl, .inr ⟨?_, by decide⟩⟩
      rcases sp2 x y with h | h <;> rw [h] <;> decide
end PC
end Go.Proofs.YtejglcpiihkenaaGreatDoor

/-
  Package prod: checkMode, byClass, exact.
-/
namespace Go.Proofs.YtejglcpiihkenaaGreatDoor
set_option linter.unusedVariables false
set_option linter.unusedSimpArgs false
open Go.RowKit
set_option linter.unusedVariables false
set_option linter.unusedSimpArgs false
namespace PC
open L NC NK DC RC SC
theorem checkModeP_c (mode : Int) (w : World) (hT : TabD w) : Calls Tryz.prog 52 #[.int .i64 mode] w (DC.RetB w (.int .i64 (if 0 ≤ mode ∧ mode ≤ 4 then 0 else 1))) := by
  have TO := Lib.hid (To_d (.agg #[.bool false, .slice none 0 0, .int .i64 0]) dz mode w (GV.zero w).dv hT)
  have e : TE dz mode = if 0 ≤ mode ∧ mode ≤ 4 then 0 else 1 := by unfold TE; rw [if_neg (by simp [dz])]
  rw [e] at TO
  clear e hT
  generalize (if 0 ≤ mode ∧ mode ≤ 4 then 0 else 1 : Int) = E at *
  generalize TX dz mode = x at *
  generalize TL dz mode = l at *
  go_enter Tryz.func52, Tryz.ntmps52
  go_wp2_with (go_at_call 55; (with_reducible refine (TO.out).mono ?_); rintro e w1 ⟨rfl, hb⟩)
  go_ret
  exact ⟨rfl, hb⟩
theorem and_top (a : Nat) : a &&& 9223372036854775808 = if a.testBit 63 = true then 9223372036854775808 else 0 := by
  have h2 : (9223372036854775808 : Nat) = 2 ^ 63 := rfl
  have h3 : Nat.testBit 9223372036854775808 63 = true := by decide
  apply Nat.eq_of_testBit_eq
  intro i
  rw [Nat.testBit_and]
  by_cases hi : i = 63
  · subst hi
    rw [h3]
    cases a.testBit 63
    · simp
    · simp [h3]
  · have : Nat.testBit 9223372036854775808 i = false := by rw [h2]; exact Nat.testBit_two_pow_of_ne (by omega)
    rw [this]
    split
    · rw [this]; simp
    · simp
theorem top_bit {x : Int} (h0 : 0 ≤ x) (h1 : x ≤ 18446744073709551615) : x.toNat.testBit 63 = F.sgn x := by
  by_cases h : 9223372036854775808 ≤ x
  · rw [F.sgn_t h, Nat.testBit_eq_decide_div_mod_eq, decide_eq_true_iff]; omega
  · rw [F.sgn_f (by omega), Nat.testBit_eq_decide_div_mod_eq, decide_eq_false_iff_not]; omega
theorem sp_bits {x y : Int} (hx : 0 ≤ x ∧ x ≤ 18446744073709551615) (hy : 0 ≤ y ∧ y ≤ 18446744073709551615) : bits .and .u64 (bits .xor .u64 x y) 9223372036854775808 = sp x y := by
  rw [u64_xor x y hx.1 (by omega) hy.1 (by omega)]
  have hl : x.toNat ^^^ y.toNat < 2 ^ 64 := Nat.xor_lt_two_pow (by omega) (by omega)
  rw [u64_and _ _ (by omega) (by omega) (by decide) (by decide)]
  rw [show (9223372036854775808 : Int).toNat = 9223372036854775808 from rfl, Int.toNat_natCast, and_top, Nat.testBit_xor, top_bit hx.1 hx.2, top_bit hy.1 hy.2]
  unfold sp
  cases F.sgn x <;> cases F.sgn y <;> rfl
set_option maxRecDepth 100000 in
set_option maxHeartbeats 8000000 in
theorem byClass_c (x y : Int) (w : World) (hx : 0 ≤ x ∧ x ≤ 18446744073709551615) (hy : 0 ≤ y ∧ y ≤ 18446744073709551615) :
    Calls Tryz.prog 53 #[.int .u64 x, .int .u64 y] w fun e w' => e = .returned (.tuple #[.int .u64 (bc x y).1, .bool (bc x y).2]) ∧ w = w' := by
  have hs := Lib.hid (sp_bits hx hy)
  have CX : Hid (∀ W : World, Calls Tryz.prog 77 #[.int .u64 x] W fun e w' => e = .returned (.int .i64 (F.cls x)) ∧ W = w') := fun W => FloatC.Class_c x hx.1 hx.2 W
  have CY : Hid (∀ W : World, Calls Tryz.prog 77 #[.int .u64 y] W fun e w' => e = .returned (.int .i64 (F.cls y)) ∧ W = w') := fun W => FloatC.Class_c y hy.1 hy.2 W
  have a := F.cls_bd x
  have b := F.cls_bd y
  have s2 := sp2 x y
  unfold bc
  generalize sp x y = s at *
  obtain ⟨cx, hcx⟩ : ∃ c, F.cls x = c := ⟨_, rfl⟩
  obtain ⟨cy, hcy⟩ : ∃ c, F.cls y = c := ⟨_, rfl⟩
  rw [hcx] at a CX ⊢
  rw [hcy] at b CY ⊢
  have kx : cx = 1 ∨ cx = 2 ∨ cx = 3 ∨ cx = 4 ∨ cx = 5 := by omega
  have ky : cy = 1 ∨ cy = 2 ∨ cy = 3 ∨ cy = 4 ∨ cy = 5 := by omega
  clear hcx hcy a b hx hy
  obtain ⟨r, hr⟩ : ∃ r : Int × Bool, r = (if max cx cy = 5 ∨ (max cx cy = 4 ∧ min cx cy = 1) then (9221120237041090560, true) else if max cx cy = 4 then (s + 9218868437227405312, true) else if min cx cy = 1 then (s, true) else (0, false)) := ⟨_, rfl⟩
  rw [← hr]
  have HR := Lib.hid hr
  clear hr
  obtain ⟨r1, r2⟩ := r
  rcases kx with rfl | rfl | rfl | rfl | rfl <;> rcases ky with rfl | rfl | rfl | rfl | rfl
  all_goals (
    have h2 := HR.out
    clear HR
    first
      | (rw [if_pos (by decide)] at h2)
      | (rw [if_neg (by decide), if_pos (by decide)] at h2)
      | (rw [if_neg (by decide), if_neg (by decide), if_pos (by decide)] at h2)
      | (rw [if_neg (by decide), if_neg (by decide), if_neg (by decide)] at h2)
    obtain ⟨rfl, rfl⟩ := Prod.mk.inj h2
    clear h2
    go_enter Tryz.func53, Tryz.ntmps53
    go_wp2_with (first
      | (go_at_call 77; (with_reducible refine (CX.out _).mono ?_); rintro e w1 ⟨rfl, rfl⟩)
      | (go_at_call 77; (with_reducible refine (CY.out _).mono ?_); rintro e w1 ⟨rfl, rfl⟩))
    go_ret2
    first
      | exact ⟨rfl, rfl⟩
      | (rw [hs.out]; exact ⟨rfl, rfl⟩)
      | (rw [hs.out]; rcases s2 with rfl | rfl <;> exact ⟨rfl, rfl⟩))
set_option maxRecDepth 100000 in
set_option maxHeartbeats 1000000 in
theorem exact_c (x y : Int) (w : World) (hx : 0 ≤ x ∧ x ≤ 18446744073709551615) (hy : 0 ≤ y ∧ y ≤ 18446744073709551615) (hT : TabD w) :
    Calls Tryz.prog 54 #[.int .u64 x, .int .u64 y] w (RetD w (PD x y)) := by
  obtain ⟨W0, hW0, D0, ZS, KB⟩ := res0 w
  have O1 := Lib.hid (Of_d x hx.1 hx.2 W0 (hT.below D0))
  have O2 : Hid (∀ W, Below W0.heap.size W0 W → Calls Tryz.prog 38 #[.int .u64 y] W (RetD W (OfD y))) := fun W hW => Of_d y hy.1 hy.2 W ((hT.below D0).below hW)
  have ML : Hid (∀ (W : World) (u v : Value) (d1 d2 : Dy), DV W u d1 → DV W v d2 → Below W0.heap.size W0 W → Calls Tryz.prog 78 #[u, v] W (RetD W (DC.Mul d1 d2))) := fun W u v d1 d2 h1 h2 hW => Mul_d u v d1 d2 W h1 h2 ((hT.below D0).below hW)
  have KB := Lib.hid KB
  have D0 := Lib.hid D0
  have HW0 := Lib.hid hW0
  have P : Hid (PD x y = if (OfD x).e = 0 then (if (OfD y).e = 0 then DC.Mul (OfD x).d (OfD y).d else ⟨(OfD y).e, dz⟩) else ⟨(OfD x).e, dz⟩) := by
    unfold PD
    by_cases h1 : F.exq x = 2047
    · have e1 : OfD x = ⟨4, dz⟩ := by unfold OfD; rw [if_pos h1]
      rw [if_pos (.inl h1), e1]; rfl
    · have e1 := (of_fit ⟨hx.1, hx.2, h1⟩).1
      rw [if_pos e1]
      by_cases h2 : F.exq y = 2047
      · have e2 : OfD y = ⟨4, dz⟩ := by unfold OfD; rw [if_pos h2]
        rw [if_pos (.inr h2), e2]; rfl
      · have e2 := (of_fit ⟨hy.1, hy.2, h2⟩).1
        rw [if_pos e2, if_neg (by omega)]
        exact rfl
  obtain ⟨rr, hrr⟩ : ∃ rr, PD x y = rr := ⟨_, rfl⟩
  rw [hrr] at P ⊢
  generalize OfD x = r1 at *
  generalize OfD y = r2 at *
  obtain ⟨e1, d1⟩ := r1
  obtain ⟨e2, d2⟩ := r2
  clear hW0 hT hx hy hrr
  by_cases h1 : e1 = 0
  · subst h1
    by_cases h2 : e2 = 0
    · subst h2
      obtain rfl : rr = DC.Mul d1 d2 := P.out
      clear P
      go_enter Tryz.func54, Tryz.ntmps54
      go_wp2_with (first
        | (go_at_call 38; rw [HW0.out]; (with_reducible refine (O1.out).mono ?_); rintro e w5 ⟨b5, A5, n5, c5, x5, rfl, hv5, hb0⟩; have s := hb0.alloc hb0.size (.cells #[.bool b5, .slice A5 n5 c5, .int .i64 x5] 60); have X1 := BD.new hv5.dv; have D := Lib.hid s; clear hv5 hb0 s)
        | (go_at_call 38; (with_reducible refine (O2.out _ D.out).mono ?_); rintro e w6 ⟨b6, A6, n6, c6, x6, rfl, hv6, hb0⟩; have s := hb0.alloc hb0.size (.cells #[.bool b6, .slice A6 n6 c6, .int .i64 x6] 60); have X2 := BD.new hv6.dv; have X1 := X1.below s; have D := Lib.hid (D.out.trans (s.mono D.out.size)); clear hv6 hb0 s; obtain ⟨a_0, a_1, a_2⟩ := X1.bx; obtain ⟨b_0, b_1, b_2⟩ := X2.bx)
        | (go_at_call 78; (with_reducible refine (ML.out _ _ _ _ _ X1.dv X2.dv D.out).mono ?_); rintro e w7 ⟨b7, A7, n7, c7, x7, rfl, hv7, hb0⟩; have D := Lib.hid (D.out.trans (hb0.mono D.out.size)); have R2 := KB.out _ D.out; have t0 := R2.at_ 0 rfl; have t1 := R2.at_ 1 rfl; have t2 := R2.at_ 2 rfl; have f0 := R2.frozen 0; have f1 := R2.frozen 1; have f2 := R2.frozen 2; have R2 := Lib.hid R2))
      exact bodyPost_ret (v := .tuple #[.agg #[.bool b7, .slice A7 n7 c7, .int .i64 x7], .int .i64 (DC.Mul d1 d2).e]) (by simp [results, Tryz.results54, go_sem, t0, t1, t2]) rfl
        ⟨_, _, _, _, _, rfl, hv7.set3 R2.out _ _ _ (by intro z h; cases h) (by intro z h; cases h), below3 (D0.out.trans (D.out.mono D0.out.size)) (by omega) _ _ _⟩
    · have ep := P.out
      simp only [if_pos] at ep
      rw [if_neg h2] at ep
      subst ep
      have t2' : (e2 != 0) = true := by simp [h2]
      clear P ML h2
      go_enter Tryz.func54, Tryz.ntmps54
      go_wp2_with (first
        | (go_at_call 38; rw [HW0.out]; (with_reducible refine (O1.out).mono ?_); rintro e w5 ⟨b5, A5, n5, c5, x5, rfl, hv5, hb0⟩; have s := hb0.alloc hb0.size (.cells #[.bool b5, .slice A5 n5 c5, .int .i64 x5] 60); have D := Lib.hid s; clear hv5 hb0 s)
        | (go_at_call 38; (with_reducible refine (O2.out _ D.out).mono ?_); rintro e w6 ⟨b6, A6, n6, c6, x6, rfl, hv6, hb0⟩; have s := hb0.alloc hb0.size (.cells #[.bool b6, .slice A6 n6 c6, .int .i64 x6] 60); have D := Lib.hid (D.out.trans (s.mono D.out.size)); clear hv6 hb0 s; have R2 := KB.out _ D.out; have t0 := R2.at_ 0 rfl; have t1 := R2.at_ 1 rfl; have t2 := R2.at_ 2 rfl; have f0 := R2.frozen 0; have f1 := R2.frozen 1; have f2 := R2.frozen 2; have R2 := Lib.hid R2))
      exact bodyPost_ret (v := .tuple #[.agg #[.bool false, .slice none 0 0, .int .i64 0], .int .i64 e2]) (by simp [results, Tryz.results54, go_sem, t0, t1, t2]) rfl
        (RetD.none (below3 (D0.out.trans (D.out.mono D0.out.size)) (by omega) _ _ _))
  · have ep := P.out
    rw [if_neg h1] at ep
    subst ep
    have t1' : (e1 != 0) = true := by simp [h1]
    clear P ML O2 h1
    go_enter Tryz.func54, Tryz.ntmps54
    go_wp2_with (first
      | (go_at_call 38; rw [HW0.out]; (with_reducible refine (O1.out).mono ?_); rintro e w5 ⟨b5, A5, n5, c5, x5, rfl, hv5, hb0⟩; have s := hb0.alloc hb0.size (.cells #[.bool b5, .slice A5 n5 c5, .int .i64 x5] 60); have D := Lib.hid s; clear hv5 hb0 s; have R2 := KB.out _ D.out; have t0 := R2.at_ 0 rfl; have t1 := R2.at_ 1 rfl; have t2 := R2.at_ 2 rfl; have f0 := R2.frozen 0; have f1 := R2.frozen 1; have f2 := R2.frozen 2; have R2 := Lib.hid R2))
    exact bodyPost_ret (v := .tuple #[.agg #[.bool false, .slice none 0 0, .int .i64 0], .int .i64 e1]) (by simp [results, Tryz.results54, go_sem, t0, t1, t2]) rfl
      (RetD.none (below3 (D0.out.trans (D.out.mono D0.out.size)) (by omega) _ _ _))
end PC
end Go.Proofs.YtejglcpiihkenaaGreatDoor

/-
  Package prod: Mul, Fma.
-/
namespace Go.Proofs.YtejglcpiihkenaaGreatDoor
set_option linter.unusedVariables false
set_option linter.unusedSimpArgs false
open Go.RowKit
set_option linter.unusedVariables false
set_option linter.unusedSimpArgs false
namespace PC
open L NC NK DC RC SC
theorem TE_ok {d : Dy} {mode : Int} (hm : 0 ≤ mode ∧ mode ≤ 4) (h : Ok d) : TE d mode = 0 := by
  unfold TE
  rw [if_neg (by simpa using h.1), if_pos hm]
set_option maxRecDepth 100000 in
theorem Mul_c (x y mode : Int) (w : World) (hx : 0 ≤ x ∧ x ≤ 18446744073709551615) (hy : 0 ≤ y ∧ y ≤ 18446744073709551615) (hT : TabD w) :
    Calls Tryz.prog 24 #[.int .u64 x, .int .u64 y, .int .i64 mode] w (DC.RetB w (ATv (MT x y mode))) := by
  have CM := Lib.hid (checkModeP_c mode w hT)
  have BC : Hid (∀ W : World, Calls Tryz.prog 53 #[.int .u64 x, .int .u64 y] W fun e w' => e = .returned (.tuple #[.int .u64 (bc x y).1, .bool (bc x y).2]) ∧ W = w') := fun W => byClass_c x y W hx hy
  unfold ATv
  by_cases hm : 0 ≤ mode ∧ mode ≤ 4
  · rw [if_pos hm] at CM
    cases h : (bc x y).2
    · have n := (bc_no hx hy).1 h
      have p := pd_p n.1 n.2.1 rfl
      have EX : Hid (∀ W, Below w.heap.size w W → Calls Tryz.prog 54 #[.int .u64 x, .int .u64 y] W (RetD W (PD x y))) := fun W hW => exact_c x y W hx hy (hT.below hW)
      have TOc : Hid (∀ (W : World) (v : Value), DV W v (PD x y).d → Below w.heap.size w W → Calls Tryz.prog 55 #[v, .int .i64 mode] W (DC.RetB W (.tuple #[.int .u64 (TX (PD x y).d mode), .bool (TL (PD x y).d mode), .int .i64 0]))) := fun W v hv hW => by
        have := To_d v _ mode W hv (hT.below hW)
        rwa [TE_ok hm p.2.1.ok] at this
      rw [MT_fi hm h]
      rw [h] at BC
      generalize (bc x y).1 = v1 at *
      generalize TX (PD x y).d mode = tx at *
      generalize TL (PD x y).d mode = tl at *
      generalize PD x y = r at *
      obtain ⟨re, d⟩ := r
      clear hT hx hy hm h n p
      go_enter Tryz.func24, Tryz.ntmps24
      go_wp2_with (first
        | (go_at_call 52; (with_reducible refine (CM.out).mono ?_); rintro e w1 ⟨rfl, hb⟩; have D := Lib.hid hb; clear hb)
        | (go_at_call 53; (with_reducible refine (BC.out _).mono ?_); rintro e w2 ⟨rfl, rfl⟩)
        | (go_at_call 54; (with_reducible refine (EX.out _ D.out).mono ?_); rintro e w3 ⟨b3, A3, n3, c3, x3, rfl, hv, hb⟩; have s := hb.alloc hb.size (.cells #[.bool b3, .slice A3 n3 c3, .int .i64 x3] 60); have Xb := BD.new hv.dv; have D := Lib.hid (D.out.trans (s.mono D.out.size)); clear hv hb s; obtain ⟨b_0, b_1, b_2⟩ := Xb.bx)
        | (go_at_call 55; (with_reducible refine (TOc.out _ _ Xb.dv D.out).mono ?_); rintro e w5 ⟨rfl, hb⟩; have D := Lib.hid (D.out.trans (hb.mono D.out.size)); clear hb))
      go_ret3
      exact ⟨rfl, D.out⟩
    · rw [MT_bc hm h]
      rw [h] at BC
      generalize (bc x y).1 = v1 at *
      clear hT hx hy hm h
      go_enter Tryz.func24, Tryz.ntmps24
      go_wp2_with (first
        | (go_at_call 52; (with_reducible refine (CM.out).mono ?_); rintro e w1 ⟨rfl, hb⟩; have D := Lib.hid hb; clear hb)
        | (go_at_call 53; (with_reducible refine (BC.out _).mono ?_); rintro e w2 ⟨rfl, rfl⟩))
      go_ret3
      exact ⟨rfl, D.out⟩
  · rw [if_neg hm] at CM
    rw [MT_no hm]
    clear hT hx hy hm BC
    go_enter Tryz.func24, Tryz.ntmps24
    go_wp2_with (first
      | (go_at_call 52; (with_reducible refine (CM.out).mono ?_); rintro e w1 ⟨rfl, hb⟩; have D := Lib.hid hb; clear hb))
    go_ret3
    exact ⟨rfl, D.out⟩
set_option maxRecDepth 100000 in
set_option maxHeartbeats 4000000 in
theorem Fma_c (x y z mode : Int) (w : World) (hx : 0 ≤ x ∧ x ≤ 18446744073709551615) (hy : 0 ≤ y ∧ y ≤ 18446744073709551615) (hz : 0 ≤ z ∧ z ≤ 18446744073709551615) (hT : TabD w) :
    Calls Tryz.prog 25 #[.int .u64 x, .int .u64 y, .int .u64 z, .int .i64 mode] w (DC.RetB w (ATv (FT x y z mode))) := by
  have CM := Lib.hid (checkModeP_c mode w hT)
  have BC : Hid (∀ W : World, Calls Tryz.prog 53 #[.int .u64 x, .int .u64 y] W fun e w' => e = .returned (.tuple #[.int .u64 (bc x y).1, .bool (bc x y).2]) ∧ W = w') := fun W => byClass_c x y W hx hy
  by_cases hm : 0 ≤ mode ∧ mode ≤ 4
  · rw [if_pos hm] at CM
    cases h : (bc x y).2
    · have n := (bc_no hx hy).1 h
      have OF : Hid (∀ W, Below w.heap.size w W → Calls Tryz.prog 38 #[.int .u64 z] W (RetD W (OfD z))) := fun W hW => Of_d z hz.1 hz.2 W (hT.below hW)
      by_cases hq : F.exq z = 2047
      · rw [FT_nf hm h hq]
        have e1 : OfD z = ⟨4, dz⟩ := by unfold OfD; rw [if_pos hq]
        rw [e1] at OF
        have AD : Hid (∀ W : World, Below w.heap.size w W → Calls Tryz.prog 21 #[.int .u64 0, .int .u64 z, .int .i64 mode] W (DC.RetB W (ATv (AT [0, z] mode)))) := fun W hW => Add_c 0 z mode W (by omega) hz (hT.below hW)
        unfold ATv at AD ⊢
        rw [h] at BC
        generalize (bc x y).1 = v1 at *
        generalize AT [0, z] mode = t at *
        obtain ⟨t1, t2, t3⟩ := t
        clear hT hx hy hz hm h n hq e1
        go_enter Tryz.func25, Tryz.ntmps25
        go_wp2_with (first
          | (go_at_call 52; (with_reducible refine (CM.out).mono ?_); rintro e w1 ⟨rfl, hb⟩; have D := Lib.hid hb; clear hb)
          | (go_at_call 53; (with_reducible refine (BC.out _).mono ?_); rintro e w2 ⟨rfl, rfl⟩)
          | (go_at_call 38; (with_reducible refine (OF.out _ D.out).mono ?_); rintro e w3 ⟨b3, A3, n3, c3, x3, rfl, hv, hb⟩; have s := hb.alloc hb.size (.cells #[.bool b3, .slice A3 n3 c3, .int .i64 x3] 60); have D := Lib.hid (D.out.trans (s.mono D.out.size)); clear hv hb s)
          | (go_at_call 21; (with_reducible refine (AD.out _ D.out).mono ?_); rintro e w5 ⟨rfl, hb⟩; have D := Lib.hid (D.out.trans (hb.mono D.out.size)); clear hb))
        go_ret3
        exact ⟨rfl, D.out⟩
      · have fz : fi z := ⟨hz.1, hz.2, hq⟩
        have e0 := (of_fit fz).1
        have p := pd_p n.1 n.2.1 rfl
        have fp := fd_p n.1 n.2.1 fz
        rw [FT_fi hm h hq]
        have EX : Hid (∀ W, Below w.heap.size w W → Calls Tryz.prog 54 #[.int .u64 x, .int .u64 y] W (RetD W (PD x y))) := fun W hW => exact_c x y W hx hy (hT.below hW)
        have AD : Hid (∀ (W : World) (u v : Value), DV W u (PD x y).d → DV W v (OfD z).d → Below w.heap.size w W → ∃ re, Calls Tryz.prog 56 #[u, v] W (RetD W ⟨re, fd x y z⟩)) := fun W u v h1 h2 hW => ⟨(DC.Add (PD x y).d (OfD z).d).e, Add_d u v _ _ W h1 h2 (hT.below hW)⟩
        have TOc : Hid (∀ (W : World) (v : Value), DV W v (fd x y z) → Below w.heap.size w W → Calls Tryz.prog 55 #[v, .int .i64 mode] W (DC.RetB W (.tuple #[.int .u64 (TX (fd x y z) mode), .bool (TL (fd x y z) mode), .int .i64 0]))) := fun W v hv hW => by
          have := To_d v _ mode W hv (hT.below hW)
          rwa [TE_ok hm fp.1.ok] at this
        have gz : Hid (∀ (W : World) (b : Bool) (A : Option Addr) (n c : Nat) (x' : Int), GV W b A n c x' (fd x y z) → (n = 0 ↔ (fd x y z).m = 0)) := fun W b A n c x h => gv_zero h
        rw [h] at BC
        unfold ATv
        generalize (bc x y).1 = v1 at *
        generalize TX (fd x y z) mode = tx at *
        generalize TL (fd x y z) mode = tl at *
        generalize fd x y z = df at *
        generalize PD x y = r at *
        obtain ⟨re, d⟩ := r
        have ez : OfD z = ⟨0, (OfD z).d⟩ := by rw [← e0]
        rw [ez] at OF
        dsimp only at OF AD
        generalize (OfD z).d = dzz at OF AD
        clear hT hx hy hz hm h n hq fz p fp e0 ez
        have key : ∀ t : Int × Bool × Int, (t = if df.m = 0 ∧ mode = 2 then (9223372036854775808, false, 0) else (tx, tl, 0)) → Calls Tryz.prog 25 #[.int .u64 x, .int .u64 y, .int .u64 z, .int .i64 mode] w (DC.RetB w (.tuple #[.int .u64 t.1, .bool t.2.1, .int .i64 t.2.2])) := by
          rintro t ht
          by_cases h0 : df.m = 0
          · have gz2 : Hid (∀ (W : World) (b : Bool) (A : Option Addr) (n c : Nat) (x : Int), GV W b A n c x df → n = 0) := fun W b A n c x h => (gz.out W b A n c x h).2 h0
            by_cases h2 : mode = 2
            · rw [if_pos ⟨h0, h2⟩] at ht
              subst ht
              subst h2
              clear gz TOc h0
              go_enter Tryz.func25, Tryz.ntmps25
              go_wp2_with (first
                | (go_at_call 52; (with_reducible refine (CM.out).mono ?_); rintro e w1 ⟨rfl, hb⟩; have D := Lib.hid hb; clear hb)
                | (go_at_call 53; (with_reducible refine (BC.out _).mono ?_); rintro e w2 ⟨rfl, rfl⟩)
                | (go_at_call 38; (with_reducible refine (OF.out _ D.out).mono ?_); rintro e w3 ⟨b3, A3, n3, c3, x3, rfl, hv, hb⟩; have s := hb.alloc hb.size (.cells #[.bool b3, .slice A3 n3 c3, .int .i64 x3] 60); have X1 := BD.new hv.dv; have D := Lib.hid (D.out.trans (s.mono D.out.size)); clear hv hb s)
                | (go_at_call 54; (with_reducible refine (EX.out _ D.out).mono ?_); rintro e w4 ⟨b4, A4, n4, c4, x4, rfl, hv, hb⟩; have s := hb.alloc hb.size (.cells #[.bool b4, .slice A4 n4 c4, .int .i64 x4] 60); have X2 := BD.new hv.dv; have X1 := X1.below s; have D := Lib.hid (D.out.trans (s.mono D.out.size)); clear hv hb s; obtain ⟨a_0, a_1, a_2⟩ := X1.bx; obtain ⟨b_0, b_1, b_2⟩ := X2.bx)
                | (go_at_call 56; obtain ⟨re5, had⟩ := AD.out _ _ _ X2.dv X1.dv D.out; (with_reducible refine had.mono ?_); clear had; rintro e w5 ⟨b5, A5, n5, c5, x5, rfl, hv, hb⟩; obtain rfl := gz2.out _ _ _ _ _ _ hv; have s := hb.alloc hb.size (.cells #[.bool b5, .slice A5 0 c5, .int .i64 x5] 60); have X3 := BD.new hv.dv; have D := Lib.hid (D.out.trans (s.mono D.out.size)); clear hv hb s; obtain ⟨c_0, c_1, c_2⟩ := X3.bx))
              go_ret3
              exact ⟨rfl, D.out⟩
            · rw [if_neg (fun k => h2 k.2)] at ht
              subst ht
              have t2 : (mode == 2) = false := by simp [h2]
              clear gz h0 h2
              go_enter Tryz.func25, Tryz.ntmps25
              go_wp2_with (first
                | (go_at_call 52; (with_reducible refine (CM.out).mono ?_); rintro e w1 ⟨rfl, hb⟩; have D := Lib.hid hb; clear hb)
                | (go_at_call 53; (with_reducible refine (BC.out _).mono ?_); rintro e w2 ⟨rfl, rfl⟩)
                | (go_at_call 38; (with_reducible refine (OF.out _ D.out).mono ?_); rintro e w3 ⟨b3, A3, n3, c3, x3, rfl, hv, hb⟩; have s := hb.alloc hb.size (.cells #[.bool b3, .slice A3 n3 c3, .int .i64 x3] 60); have X1 := BD.new hv.dv; have D := Lib.hid (D.out.trans (s.mono D.out.size)); clear hv hb s)
                | (go_at_call 54; (with_reducible refine (EX.out _ D.out).mono ?_); rintro e w4 ⟨b4, A4, n4, c4, x4, rfl, hv, hb⟩; have s := hb.alloc hb.size (.cells #[.bool b4, .slice A4 n4 c4, .int .i64 x4] 60); have X2 := BD.new hv.dv; have X1 := X1.below s; have D := Lib.hid (D.out.trans (s.mono D.out.size)); clear hv hb s; obtain ⟨a_0, a_1, a_2⟩ := X1.bx; obtain ⟨b_0, b_1, b_2⟩ := X2.bx)
                | (go_at_call 56; obtain ⟨re5, had⟩ := AD.out _ _ _ X2.dv X1.dv D.out; (with_reducible refine had.mono ?_); clear had; rintro e w5 ⟨b5, A5, n5, c5, x5, rfl, hv, hb⟩; obtain rfl := gz2.out _ _ _ _ _ _ hv; have s := hb.alloc hb.size (.cells #[.bool b5, .slice A5 0 c5, .int .i64 x5] 60); have X3 := BD.new hv.dv; have D := Lib.hid (D.out.trans (s.mono D.out.size)); clear hv hb s; obtain ⟨c_0, c_1, c_2⟩ := X3.bx)
                | (go_at_call 55; (with_reducible refine (TOc.out _ _ X3.dv D.out).mono ?_); rintro e w6 ⟨rfl, hb⟩; have D := Lib.hid (D.out.trans (hb.mono D.out.size)); clear hb))
              go_ret3
              exact ⟨rfl, D.out⟩
          · rw [if_neg (fun k => h0 k.1)] at ht
            subst ht
            have gz2 : Hid (∀ (W : World) (b : Bool) (A : Option Addr) (n c : Nat) (x : Int), GV W b A n c x df → n ≠ 0) := fun W b A n c x h h1 => h0 ((gz.out W b A n c x h).1 h1)
            clear gz h0
            go_enter Tryz.func25, Tryz.ntmps25
            go_wp2_with (first
              | (go_at_call 52; (with_reducible refine (CM.out).mono ?_); rintro e w1 ⟨rfl, hb⟩; have D := Lib.hid hb; clear hb)
              | (go_at_call 53; (with_reducible refine (BC.out _).mono ?_); rintro e w2 ⟨rfl, rfl⟩)
              | (go_at_call 38; (with_reducible refine (OF.out _ D.out).mono ?_); rintro e w3 ⟨b3, A3, n3, c3, x3, rfl, hv, hb⟩; have s := hb.alloc hb.size (.cells #[.bool b3, .slice A3 n3 c3, .int .i64 x3] 60); have X1 := BD.new hv.dv; have D := Lib.hid (D.out.trans (s.mono D.out.size)); clear hv hb s)
              | (go_at_call 54; (with_reducible refine (EX.out _ D.out).mono ?_); rintro e w4 ⟨b4, A4, n4, c4, x4, rfl, hv, hb⟩; have s := hb.alloc hb.size (.cells #[.bool b4, .slice A4 n4 c4, .int .i64 x4] 60); have X2 := BD.new hv.dv; have X1 := X1.below s; have D := Lib.hid (D.out.trans (s.mono D.out.size)); clear hv hb s; obtain ⟨a_0, a_1, a_2⟩ := X1.bx; obtain ⟨b_0, b_1, b_2⟩ := X2.bx)
              | (go_at_call 56; obtain ⟨re5, had⟩ := AD.out _ _ _ X2.dv X1.dv D.out; (with_reducible refine had.mono ?_); clear had; rintro e w5 ⟨b5, A5, n5, c5, x5, rfl, hv, hb⟩; have hn5 := gz2.out _ _ _ _ _ _ hv; have hd5 : ((n5 : Int) == 0) = false := (by simpa using hn5); have s := hb.alloc hb.size (.cells #[.bool b5, .slice A5 n5 c5, .int .i64 x5] 60); have X3 := BD.new hv.dv; have D := Lib.hid (D.out.trans (s.mono D.out.size)); clear hv hb s; obtain ⟨c_0, c_1, c_2⟩ := X3.bx)
              | (go_at_call 55; (with_reducible refine (TOc.out _ _ X3.dv D.out).mono ?_); rintro e w6 ⟨rfl, hb⟩; have D := Lib.hid (D.out.trans (hb.mono D.out.size)); clear hb))
            go_ret3
            exact ⟨rfl, D.out⟩
        exact key _ rfl
    · rw [FT_bc hm h]
      have bb := bc_bd x y
      rw [h] at BC
      generalize (bc x y).1 = v1 at *
      have AD : Hid (∀ W : World, Below w.heap.size w W → Calls Tryz.prog 21 #[.int .u64 v1, .int .u64 z, .int .i64 mode] W (DC.RetB W (ATv (AT [v1, z] mode)))) := fun W hW => Add_c v1 z mode W bb hz (hT.below hW)
      unfold ATv at AD ⊢
      generalize AT [v1, z] mode = t at *
      obtain ⟨t1, t2, t3⟩ := t
      clear hT hx hy hz hm h bb
      go_enter Tryz.func25, Tryz.ntmps25
      go_wp2_with (first
        | (go_at_call 52; (with_reducible refine (CM.out).mono ?_); rintro e w1 ⟨rfl, hb⟩; have D := Lib.hid hb; clear hb)
        | (go_at_call 53; (with_reducible refine (BC.out _).mono ?_); rintro e w2 ⟨rfl, rfl⟩)
        | (go_at_call 21; (with_reducible refine (AD.out _ D.out).mono ?_); rintro e w5 ⟨rfl, hb⟩; have D := Lib.hid (D.out.trans (hb.mono D.out.size)); clear hb))
      go_ret3
      exact ⟨rfl, D.out⟩
  · rw [if_neg hm] at CM
    rw [FT_no hm]
    unfold ATv
    clear hT hx hy hz hm BC
    go_enter Tryz.func25, Tryz.ntmps25
    go_wp2_with (first
      | (go_at_call 52; (with_reducible refine (CM.out).mono ?_); rintro e w1 ⟨rfl, hb⟩; have D := Lib.hid hb; clear hb))
    go_ret3
    exact ⟨rfl, D.out⟩
end PC
end Go.Proofs.YtejglcpiihkenaaGreatDoor

