/-
  Package quot: isOdd, inUnits, nearest; what the remainder is.
-/
import Derived.Test.YtpmjeipdldnnbaaDoorJ4
namespace Go.Proofs.YtpmjeipdldnnbaaDoor
set_option linter.unusedVariables false
set_option linter.unusedSimpArgs false
open Go.RowKit
set_option linter.unusedVariables false
set_option linter.unusedSimpArgs false
namespace JC
open L NC NK DC RC SC PC
open Z (cmpv)
theorem bdn (W : World) (k : Nat) : Below W.heap.size W (W.drewN k) := by
  have h := Below.refl W.heap.size W
  exact ⟨h.os, h.tape, h.output, h.size, h.block⟩
theorem isOddQ_c (A : Option Addr) (n c : Nat) (z : Int) (w : World) (hv : NV w (.slice A n c) z) : Calls Tryd.prog 73 #[.slice A n c] w (fun e w' => e = .returned (.bool (decide (z % 2 = 1))) ∧ w = w') := by
  obtain ⟨l, hs, Ll, -, hz⟩ := hv
  obtain ⟨en, hc⟩ := hs.len_
  rw [← hz, lv_odd]
  by_cases h0 : l = []
  · subst h0
    obtain rfl : n = 0 := en
    clear hs Ll hz
    go_enter Tryd.func73, Tryd.ntmps73
    go_wp2
    go_ret
    exact ⟨ret_bool (by simp), rfl⟩
  · have hn0 : 0 < n := by rw [en]; exact List.length_pos_iff.2 h0
    obtain ⟨ad, c', e, hc', hb', hcell⟩ := hs.at_ 0 (by rw [← en]; omega)
    injection e with e1 e2 e3
    subst e1
    clear e2 e3 hc' c'
    have bz := Ll.at_ 0
    generalize l.getD 0 0 = y at *
    rw [show ad.add 0 = ad from rfl] at hcell
    have h1 : (n : Int) > 0 := by omega
    have i1 : IntKind.u32.wrap (y % 2) = y % 2 := IntWalk.u32_in _ (by omega)
    have e5 : (y % 2 == 1) = decide (y % 2 = 1) := rfl
    clear hs h0 Ll hz en
    go_enter Tryd.func73, Tryd.ntmps73
    go_wp2
    go_ret
    exact ⟨ret_bool (by first | rfl | simp), rfl⟩
theorem inUnits_c (b : Bool) (A : Option Addr) (n c : Nat) (X y o : Int) (k : Nat) (w : World) (hv : PV w (.slice A n c) 0 o) (hX : -2000 ≤ X ∧ X ≤ 2000) (hy : -2000 ≤ y ∧ y ≤ 2000) (hk : X - y = (k : Int)) :
    Calls Tryd.prog 30 #[.agg #[.bool b, .slice A n c, .int .i64 X], .int .i64 y] w (RetV w (o * 2 ^ k)) := by
  have D0 := al1 w (.cells #[.bool b, .slice A n c, .int .i64 X] 35)
  have N1 := Blk.new w 35 #[.bool b, .slice A n c, .int .i64 X]
  have SH : Hid (Calls Tryd.prog 51 #[.slice A n c, .int .i64 (X - y)] (w.alloc (.cells #[.bool b, .slice A n c, .int .i64 X] 35)) (RetSh (w.alloc (.cells #[.bool b, .slice A n c, .int .i64 X] 35)) 0 (o * 2 ^ k) false)) := by
    rw [hk]
    exact sh_up (hv.below D0) k (by omega)
  have a0 := N1.at_ 0 rfl
  have a1 := N1.at_ 1 rfl
  have a2 := N1.at_ 2 rfl
  have D0 := Lib.hid D0
  generalize o * 2 ^ k = L at *
  clear hk hv
  go_enter Tryd.func30, Tryd.ntmps30
  go_wp2_with (first
    | (go_at_call 51; (with_reducible refine (SH.out).mono ?_); rintro e w5 ⟨A5, n5, c5, rfl, nl, hb⟩))
  go_ret
  exact ⟨_, _, _, rfl, nl, D0.out.trans (hb.mono D0.out.size)⟩
/-- is the nearest multiple above; how far it is -/
def ov (a b : Int) : Bool := decide (b - a % b < a % b ∨ (a % b = b - a % b ∧ a / b % 2 = 1))
def rs (a b : Int) : Int := if ov a b = true then b - a % b else a % b
theorem ov_scale {a b E : Int} (hE : 0 < E) : ov (a * E) (b * E) = ov a b ∧ rs (a * E) (b * E) = rs a b * E := by
  have e1 : a * E % (b * E) = a % b * E := by
    rw [Int.mul_comm a, Int.mul_comm b, Int.mul_emod_mul_of_pos _ _ hE, Int.mul_comm]
  have e2 : a * E / (b * E) = a / b := by rw [Int.mul_comm a, Int.mul_comm b, Int.mul_ediv_mul_of_pos _ _ hE]
  have e3 : ov (a * E) (b * E) = ov a b := by
    unfold ov
    rw [e1, e2, ← Int.sub_mul]
    apply decide_eq_decide.2
    rw [Int.mul_lt_mul_right hE]
    constructor
    · rintro (h | ⟨h, k⟩)
      · exact .inl h
      · exact .inr ⟨Int.eq_of_mul_eq_mul_right (Int.ne_of_gt hE) h, k⟩
    · rintro (h | ⟨h, k⟩)
      · exact .inl h
      · exact .inr ⟨by rw [← h], k⟩
  refine ⟨e3, ?_⟩
  unfold rs
  rw [e3, e1, ← Int.sub_mul]
  split <;> rfl
theorem rs_bd {a b : Int} (ha : 0 ≤ a) (hb : 0 < b) : 0 ≤ rs a b ∧ rs a b < b ∧ rs a b ≤ a ∧ 2 * rs a b ≤ b := by
  have h0 := Int.emod_nonneg a (Int.ne_of_gt hb)
  have h1 := Int.emod_lt_of_pos a hb
  have h2 := Int.mul_ediv_add_emod a b
  have h3 := Int.ediv_nonneg ha (Int.le_of_lt hb)
  have h4 := Int.mul_nonneg (Int.le_of_lt hb) h3
  unfold rs
  by_cases h : ov a b = true
  · rw [if_pos h]
    unfold ov at h
    rw [decide_eq_true_iff] at h
    omega
  · rw [if_neg h]
    unfold ov at h
    rw [decide_eq_true_iff] at h
    omega
set_option maxRecDepth 100000 in
set_option maxHeartbeats 4000000 in
theorem nearest_c (A1 A2 : Option Addr) (n1 c1 n2 c2 : Nat) (a b : Int) (w : World) (h1 : PV w (.slice A1 n1 c1) 0 a) (h2 : PV w (.slice A2 n2 c2) 0 b) (hb : 0 < b) :
    Calls Tryd.prog 29 #[.slice A1 n1 c1, .slice A2 n2 c2] w fun e w' => ∃ A n c, e = .returned (.tuple #[.slice A n c, .bool (ov a b)]) ∧ NV w' (.slice A n c) (rs a b) ∧ Below w.heap.size w w' := by
  have ba := h1.small
  have bb := h2.small
  have la := ba.2 rfl
  have lb := bb.2 rfl
  have q0 := Int.ediv_nonneg ba.1 (Int.le_of_lt hb)
  have q1 := Int.ediv_le_self (b := b) ba.1
  have r0 := Int.emod_nonneg a (Int.ne_of_gt hb)
  have r1 := Int.emod_lt_of_pos a hb
  have P2 : Hid (∀ W, Below w.heap.size w W → PV W (.slice A2 n2 c2) 0 b) := fun W hW => h2.below hW
  have e0 : ed 0 0 b = 0 := by unfold ed ee; rw [if_neg (by simp), if_neg (by omega)]
  have es0 : es 0 0 b (a % b) = 0 := by unfold es ee; rw [if_pos (by simp), if_neg (by omega)]
  have ez : erz (a % b) = 0 := by unfold erz; rw [if_pos (Int.lt_trans r1 lb)]
  have ez2 : erz (b - a % b) = 0 := by unfold erz; rw [if_pos (Int.lt_of_le_of_lt (by omega) lb)]
  have DI : Hid (Calls Tryd.prog 52 #[.slice A1 n1 c1, .slice A2 n2 c2] w (RetDP w 0 (a / b) (a % b))) := by
    have := Div_p h1 h2
    rw [e0, if_pos rfl, if_pos rfl] at this
    exact this
  have SU : Hid (∀ (W : World) (u v : Value), PV W u 0 b → PV W v (erz (a % b)) (a % b) → Calls Tryd.prog 71 #[u, v] W (RetP W 0 (b - a % b))) := fun W u v k1 k2 => by
    rw [ez] at k2
    have := Sub_p k1 k2
    rw [es0, if_pos rfl] at this
    exact this
  have CM : Hid (∀ (W : World) (u v : Value), PV W u (erz (a % b)) (a % b) → PV W v (erz (b - a % b)) (b - a % b) → Calls Tryd.prog 72 #[u, v] W (NC.RetQ W (.tuple #[.int .i64 (cmpv (a % b) (b - a % b)), .int .i64 0]))) := fun W u v k1 k2 => by
    rw [ez] at k1
    rw [ez2] at k2
    have := Cmp_p k1 k2
    rw [show ee 0 0 = 0 from rfl, if_pos rfl] at this
    exact this
  have OD : Hid (∀ (W : World) (A : Option Addr) (n c : Nat), NV W (.slice A n c) (a / b) → Calls Tryd.prog 73 #[.slice A n c] W (fun e w' => e = .returned (.bool (decide (a / b % 2 = 1))) ∧ W = w')) := fun W A n c h => isOddQ_c A n c _ W h
  have cv : (ov a b = false ∧ rs a b = a % b ∧ cmpv (a % b) (b - a % b) = -1) ∨ (ov a b = true ∧ rs a b = b - a % b ∧ cmpv (a % b) (b - a % b) = 1) ∨ (ov a b = false ∧ rs a b = a % b ∧ cmpv (a % b) (b - a % b) = 0 ∧ decide (a / b % 2 = 1) = false) ∨ (ov a b = true ∧ rs a b = b - a % b ∧ cmpv (a % b) (b - a % b) = 0 ∧ decide (a / b % 2 = 1) = true) := by
    have e1 : ov a b = true → rs a b = b - a % b := fun h => by unfold rs; rw [if_pos h]
    have e2 : ov a b = false → rs a b = a % b := fun h => by unfold rs; rw [if_neg (by simp [h])]
    rcases Int.lt_trichotomy (a % b) (b - a % b) with h | h | h
    · have : ov a b = false := by unfold ov; rw [decide_eq_false_iff_not]; omega
      exact .inl ⟨this, e2 this, Z.cmpv_lt h⟩
    · by_cases k : a / b % 2 = 1
      · have : ov a b = true := by unfold ov; rw [decide_eq_true_iff]; omega
        exact .inr (.inr (.inr ⟨this, e1 this, Z.cmpv_eq h, decide_eq_true k⟩))
      · have : ov a b = false := by unfold ov; rw [decide_eq_false_iff_not]; omega
        exact .inr (.inr (.inl ⟨this, e2 this, Z.cmpv_eq h, decide_eq_false k⟩))
    · have : ov a b = true := by unfold ov; rw [decide_eq_true_iff]; omega
      exact .inr (.inl ⟨this, e1 this, Z.cmpv_gt h⟩)
  generalize decide (a / b % 2 = 1) = od at *
  generalize cmpv (a % b) (b - a % b) = cc at *
  generalize ov a b = o at *
  generalize rs a b = r at *
  clear h1 h2 hb ba bb la lb q0 q1 r0 r1 e0 es0 ez ez2
  generalize a / b = q at *
  generalize a % b = z at *
  rcases cv with ⟨rfl, rfl, rfl⟩ | ⟨rfl, rfl, rfl⟩ | ⟨rfl, rfl, rfl, rfl⟩ | ⟨rfl, rfl, rfl, rfl⟩
  all_goals (
    go_enter Tryd.func29, Tryd.ntmps29
    go_wp2_with (first
      | (go_at_call 52; (with_reducible refine (DI.out).mono ?_); rintro e w1 ⟨A3, n3, c3, A4, n4, c4, rfl, -, pr, nq, nr, hb⟩; have p2 := P2.out _ hb; have D := Lib.hid hb; clear hb)
      | (go_at_call 71; (with_reducible refine (SU.out _ _ _ p2 pr).mono ?_); rintro e w2 ⟨A5, n5, c5, rfl, ps, ns, hb⟩; have pr := pr.below hb; have nr := nr.below hb; have nq := nq.below hb; have D := Lib.hid (D.out.trans (hb.mono D.out.size)); clear hb)
      | (go_at_call 72; (with_reducible refine (CM.out _ _ _ pr ps).mono ?_); rintro e w3 ⟨rfl, k3, rfl⟩; have hb := bdn w2 k3; have nr := nr.below hb; have nq := nq.below hb; have ns := ns.below hb; have D := Lib.hid (D.out.trans (hb.mono D.out.size)); clear hb)
      | (go_at_call 73; (with_reducible refine (OD.out _ _ _ _ nq).mono ?_); rintro e w4 ⟨rfl, rfl⟩))
    go_ret2
    first
      | exact ⟨_, _, _, rfl, nr, D.out⟩
      | exact ⟨_, _, _, rfl, ns, D.out⟩)
end JC
end Go.Proofs.YtpmjeipdldnnbaaDoor
