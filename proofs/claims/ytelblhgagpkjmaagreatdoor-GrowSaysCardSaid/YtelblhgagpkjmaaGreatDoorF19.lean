/-
  Texts glued together for a claim: Q11.
-/
import Derived.Test.YtelblhgagpkjmaaGreatDoorF18
import Derived.Deep.DeepCutAuto
/-
  The reference's rounding: Rounded, the walk.
-/
namespace Go.Proofs.YtelblhgagpkjmaaGreatDoor
set_option linter.unusedVariables false
set_option linter.unusedSimpArgs false
open Go.RowKit
set_option linter.unusedVariables false
set_option linter.unusedSimpArgs false
namespace QC
open Z (Nz Tz cmpv big)
open ZC DC RC
/-- up, or down -/
def upR (mode K hi : Int) (neg : Bool) : Bool :=
  if K = 0 ∧ mode = 4 then !neg else if K = 0 ∧ mode = 0 then decide (hi.tmod 2 = 0) else (decide (mode = 1) || (decide (mode = 3) && neg) || ((decide (mode = 0) || decide (mode = 4)) && decide (0 < K)))
def tellv (n : Int) (neg : Bool) : Int := if n = 0 ∧ neg = true then 9223372036854775808 else F.num n
def smR (s l : Int) : Bool := decide (-9218868437227405312 < l ∧ SV l = s)
def negR (s more : Int) : Bool := decide (s < 0 ∨ (s = 0 ∧ more < 0))
def loR (s l more : Int) : Int := if smR s l = true ∧ more < 0 then l - 1 else l
def KR (s lo more : Int) : Int := if cmpv (s * 2) (SV lo + SV (lo + 1)) = 0 then more else cmpv (s * 2) (SV lo + SV (lo + 1))
def rkR (s lo more mode : Int) : Int := if upR mode (KR s lo more) (lo + 1) (negR s more) = true then lo + 1 else lo
def xR (s l more mode : Int) : Int := if smR s l = true ∧ more = 0 then F.num l else tellv (rkR s (loR s l more) more mode) (negR s more)
def lR (s l more : Int) : Bool := !(smR s l && decide (more = 0))
theorem qs_zero (w : World) : QS 1 1 w (.agg #[.bool false, .slice none 0 0, .int .i64 0]) 0 := by
  refine ⟨0, 0, ⟨false, none, 0, 0, rfl, by simp, [], rfl, Sl.nil _ _ _ _, by intro d hd; simp at hd, by intro h; exact absurd rfl h, rfl⟩, by decide, by omega, by omega, sc_zero.2 rfl⟩
theorem cmpv3 (x y : Int) : (cmpv x y = -1 ∧ x < y) ∨ (cmpv x y = 0 ∧ x = y) ∨ (cmpv x y = 1 ∧ y < x) := by
  rcases Int.lt_trichotomy x y with h | h | h
  · exact .inl ⟨Z.cmpv_lt h, h⟩
  · exact .inr (.inl ⟨Z.cmpv_eq h, h⟩)
  · exact .inr (.inr ⟨Z.cmpv_gt h, h⟩)
/-- which way, case by case -/
theorem up_leaf {mode K hi : Int} {neg U : Bool} (hm : 0 ≤ mode ∧ mode ≤ 4) (h : upR mode K hi neg = U) :
    (mode = 1 ∧ U = true) ∨ (mode = 2 ∧ U = false) ∨ (mode = 3 ∧ ((neg = true ∧ U = true) ∨ (neg = false ∧ U = false))) ∨ (mode = 0 ∧ K = 0 ∧ (hi.tmod 2 == 0) = U) ∨ (mode = 0 ∧ (K == 0) = false ∧ ((0 < K ∧ U = true) ∨ (¬ 0 < K ∧ U = false))) ∨
    (mode = 4 ∧ K = 0 ∧ ((neg = true ∧ U = false) ∨ (neg = false ∧ U = true))) ∨ (mode = 4 ∧ (K == 0) = false ∧ ((0 < K ∧ U = true) ∨ (¬ 0 < K ∧ U = false))) := by
  unfold upR at h
  by_cases m1 : mode = 1
  · subst m1; left; simp at h; exact ⟨rfl, by cases U <;> simp_all⟩
  · by_cases m2 : mode = 2
    · subst m2; right; left; simp at h; exact ⟨rfl, by cases U <;> simp_all⟩
    · by_cases m3 : mode = 3
      · subst m3; right; right; left; simp at h; exact ⟨rfl, by cases U <;> cases neg <;> simp_all⟩
      · by_cases m0 : mode = 0
        · subst m0
          by_cases hk : K = 0
          · right; right; right; left
            simp [hk] at h
            exact ⟨rfl, hk, by rw [← h]; rfl⟩
          · right; right; right; right; left
            simp [hk] at h
            refine ⟨rfl, by simp [hk], ?_⟩
            by_cases hp : 0 < K
            · left; simp [hp] at h; exact ⟨hp, by cases U <;> simp_all⟩
            · right; simp [hp] at h; exact ⟨hp, by cases U <;> simp_all⟩
        · have m4 : mode = 4 := by omega
          subst m4
          by_cases hk : K = 0
          · right; right; right; right; right; left
            simp [hk] at h
            exact ⟨rfl, hk, by cases U <;> cases neg <;> simp_all⟩
          · right; right; right; right; right; right
            simp [hk] at h
            refine ⟨rfl, by simp [hk], ?_⟩
            by_cases hp : 0 < K
            · left; simp [hp] at h; exact ⟨hp, by cases U <;> simp_all⟩
            · right; simp [hp] at h; exact ⟨hp, by cases U <;> simp_all⟩
set_option maxRecDepth 100000 in
set_option maxHeartbeats 16000000 in
theorem Rounded_w (u : Value) (s l more mode : Int) {M T : Nat} (w : World) (h : QS M T w u s) (hM : M ≤ 200000) (hT : T ≤ 20000) (hl : LowR s l) (hmo : -1 ≤ more ∧ more ≤ 1) (hmd : 0 ≤ mode ∧ mode ≤ 4) (hlo : -9218868437227405312 ≤ loR s l more) :
    Calls Tryz.prog 107 #[u, .int .i64 more, .int .i64 mode] w fun e w' => e = .returned (.tuple #[.int .u64 (xR s l more mode), .bool (lR s l more)]) ∧ Below w.heap.size w w' := by
  have QS0 := Lib.hid h
  obtain ⟨z, t, ⟨b1, A1, n1, c1, rfl, hz⟩, -⟩ := h
  have N1 := Blk.new w 41 #[.bool b1, .slice A1 n1 c1, .int .i64 t]
  have D0 : Below w.heap.size w (w.alloc (.cells #[.bool b1, .slice A1 n1 c1, .int .i64 t] 41)) := (Below.refl _ _).alloc (Nat.le_refl _) _
  obtain ⟨W0, hW0⟩ : ∃ W0, w.alloc (.cells #[.bool b1, .slice A1 n1 c1, .int .i64 t] 41) = W0 := ⟨_, rfl⟩
  rw [hW0] at N1 D0
  have KB : Hid (∀ W, Below W0.heap.size W0 W → W.cell? ⟨w.heap.size, 0, none⟩ = some (.bool b1) ∧ W.cell? ⟨w.heap.size, 1, none⟩ = some (.slice A1 n1 c1) ∧ W.cell? ⟨w.heap.size, 2, none⟩ = some (.int .i64 t)) := fun W h => ⟨(N1.below h N1.lt).at_ 0 rfl, (N1.below h N1.lt).at_ 1 rfl, (N1.below h N1.lt).at_ 2 rfl⟩
  have QQ : Hid (∀ W, Below W0.heap.size W0 W → QS M T W (.agg #[.bool b1, .slice A1 n1 c1, .int .i64 t]) s) := fun W hW => (QS0.out.below D0).below hW
  have LR : Hid (Calls Tryz.prog 121 #[.agg #[.bool b1, .slice A1 n1 c1, .int .i64 t]] W0 fun e w' => e = .returned (.int .i64 l) ∧ Below W0.heap.size W0 w') := by
    refine (LowRank_s _ s W0 (QQ.out W0 (Below.refl _ _)) (by omega) (by omega)).mono ?_
    rintro e w' ⟨l', rfl, hl', hb⟩
    rw [hl'.unique hl]
    exact ⟨rfl, hb⟩
  have RV : Hid (∀ (W : World) (n : Int), -9218868437227405312 ≤ n → n ≤ 9218868437227405312 → Calls Tryz.prog 122 #[.int .i64 n] W (RetS 1100 1100 W (SV n))) := fun W n h0 h1 => rankVal_s n W h0 h1
  have CQ : Hid (∀ (W : World) (v : Value) (x : Int), Below W0.heap.size W0 W → QS 1100 1100 W v x → Calls Tryz.prog 13 #[v, .agg #[.bool b1, .slice A1 n1 c1, .int .i64 t]] W fun e w' => e = .returned (.int .i64 (cmpv x s)) ∧ Below W.heap.size W w') := fun W v x hW hv =>
    QCmp_s hv (QQ.out W hW) (by omega) (by omega) (by omega) (by omega)
  have C0 : Hid (∀ (W : World), Below W0.heap.size W0 W → Calls Tryz.prog 13 #[.agg #[.bool b1, .slice A1 n1 c1, .int .i64 t], .agg #[.bool false, .slice none 0 0, .int .i64 0]] W fun e w' => e = .returned (.int .i64 (cmpv s 0)) ∧ Below W.heap.size W w') := fun W hW =>
    QCmp_s (QQ.out W hW) (qs_zero W) (by omega) (by omega) (by omega) (by omega)
  have SHc : Hid (∀ (W : World), Below W0.heap.size W0 W → Calls Tryz.prog 125 #[.agg #[.bool b1, .slice A1 n1 c1, .int .i64 t], .int .i64 1] W (RetS (M + 1) T W (s * 2))) := fun W hW => by
    have := QShift_s (n := 1) (QQ.out W hW) (by omega) (by omega) (by omega)
    rwa [show s * 2 ^ (1 : Int).toNat = s * 2 from rfl] at this
  obtain ⟨Ma, hMa⟩ : ∃ Ma : Nat, Ma = 4401 := ⟨_, rfl⟩
  obtain ⟨Ta, hTa⟩ : ∃ Ta : Nat, Ta = 2200 := ⟨_, rfl⟩
  have ADc : Hid (∀ (W : World) (v v' : Value) (x y : Int), QS 1100 1100 W v x → QS 1100 1100 W v' y → Calls Tryz.prog 32 #[v, v'] W (RetS Ma Ta W (x + y))) := fun W v v' x y hv hv' =>
    (QAdd_s (M := 1100) (T := 1100) (M' := 1100) (T' := 1100) hv hv' (by omega) (by omega) (by omega) (by omega)).mono fun e w' h => RetS.mono h (by omega) (by omega)
  have CC : Hid (∀ (W : World) (v v' : Value) (x y : Int), QS (M + 1) T W v x → QS Ma Ta W v' y → Calls Tryz.prog 13 #[v, v'] W fun e w' => e = .returned (.int .i64 (cmpv x y)) ∧ Below W.heap.size W w') := fun W v v' x y hv hv' => QCmp_s hv hv' (by omega) (by omega) (by omega) (by omega)
  have RK : Hid (∀ W : World, Calls Tryz.prog 123 #[.int .i64 l] W fun e w' => e = .returned (.int .u64 (F.num l)) ∧ W = w') := fun W => FloatR.Ranked_c l hl.1 (by have := hl.2.1; omega) W
  have lb := hl.1
  have lb2 := hl.2.1
  obtain ⟨sm, hsm⟩ : ∃ sm, smR s l = sm := ⟨_, rfl⟩
  obtain ⟨X, hX⟩ : ∃ X, xR s l more mode = X := ⟨_, rfl⟩
  obtain ⟨Lo, hLo⟩ : ∃ Lo, lR s l more = Lo := ⟨_, rfl⟩
  rw [hX, hLo]
  have HX := Lib.hid hX
  have HLo := Lib.hid hLo
  clear hX hLo
  have HSM : Hid (sm = decide (-9218868437227405312 < l ∧ SV l = s)) := hsm.symm
  have HW0 := Lib.hid hW0
  have D0 := Lib.hid D0
  have HL := Lib.hid hl
  clear hz N1 hW0 hM hT hl QS0 hMa hTa
  go_enter Tryz.func107, Tryz.ntmps107
  go_upto_region 2 with (first
    | (go_at_call 121; rw [HW0.out]; (with_reducible refine (LR.out).mono ?_); rintro e w1 ⟨rfl, hb⟩; have D := Lib.hid hb; clear hb))
  go_cut [9] (fun v9 wx => v9 = .bool sm ∧ Hid (Below W0.heap.size W0 wx))
  case first =>
    have D1 : Below W0.heap.size W0 w1.drew := D.out.drew
    by_cases hm : l = -9218868437227405312
    · have hsf : sm = false := by rw [HSM.out, decide_eq_false_iff_not]; omega
      subst hsf
      have hgt : ¬ l > -9218868437227405312 := by omega
      clear hm
      (refine wp_region_L (S := fun w' => w'.cell? ⟨w.heap.size, 0, none⟩ = some (.bool b1) ∧ w'.cell? ⟨w.heap.size, 1, none⟩ = some (.slice A1 n1 c1) ∧ w'.cell? ⟨w.heap.size, 2, none⟩ = some (.int .i64 t)) (nl := 1000000) (by kernel_rfl) ?_ (fun hHeld => ?_); focus (exact KB.out _ D1))
      (refine wpAnyL_take (i := 0) (oi := _) (v := ?_) rfl (by kernel_rfl) (by kernel_rfl) (by kernel_rfl) (fun _ _ _ h => h) (Or.inl ⟨by first | rfl | kernel_rfl, ?hy1⟩) (by assumption) ?rs1; (case hy1 => (intro w hSw; (try dsimp only at hSw); go_simp; first | done | with_reducible rfl)); case' rs1 => (simp only [List.getElem_toArray, List.getElem_cons_zero, List.getElem_cons_succ, Act.put, List.setIfInBounds_toArray, List.set_cons_zero, List.set_cons_succ])); (refine wpAnyL_take (i := 1) (oi := _) (v := ?_) rfl (by kernel_rfl) (by kernel_rfl) (by kernel_rfl) (fun _ _ _ h => h) (Or.inl ⟨by first | rfl | kernel_rfl, ?hy2⟩) (by assumption) ?rs2; (case hy2 => (intro w hSw; (try dsimp only at hSw); go_simp; first | done | with_reducible rfl)); case' rs2 => (simp only [List.getElem_toArray, List.getElem_cons_zero, List.getElem_cons_succ, Act.put, List.setIfInBounds_toArray, List.set_cons_zero, List.set_cons_succ])); (refine wpAnyL_take (i := 2) (oi := _) (v := ?_) rfl (by kernel_rfl) (by kernel_rfl) (by kernel_rfl) (fun _ _ _ h => h) (Or.inl ⟨by first | rfl | kernel_rfl, ?hy3⟩) (by assumption) ?rs3; (case hy3 => (intro w hSw; (try dsimp only at hSw); go_simp; first | done | with_reducible rfl)); case' rs3 => (simp only [List.getElem_toArray, List.getElem_cons_zero, List.getElem_cons_succ, Act.put, List.setIfInBounds_toArray, List.set_cons_zero, List.set_cons_succ])); (refine wpAnyL_take (i := 3) (oi := _) (v := undef) rfl (by kernel_rfl) (by kernel_rfl) (by kernel_rfl) (fun _ _ _ h => h) (Or.inr ⟨by first | rfl | kernel_rfl, rfl⟩) (by assumption) ?rs4; case' rs4 => (simp only [List.getElem_toArray, List.getElem_cons_zero, List.getElem_cons_succ, Act.put, List.setIfInBounds_toArray, List.set_cons_zero, List.set_cons_succ])); (refine wpAnyL_take (i := 4) (oi := _) (v := undef) rfl (by kernel_rfl) (by kernel_rfl) (by kernel_rfl) (fun _ _ _ h => h) (Or.inr ⟨by first | rfl | kernel_rfl, rfl⟩) (by assumption) ?rs5; case' rs5 => (simp only [List.getElem_toArray, List.getElem_cons_zero, List.getElem_cons_succ, Act.put, List.setIfInBounds_toArray, List.set_cons_zero, List.set_cons_succ])); (refine wpAnyL_take (i := 5) (oi := _) (v := undef) rfl (by kernel_rfl) (by kernel_rfl) (by kernel_rfl) (fun _ _ _ h => h) (Or.inr ⟨by first | rfl | kernel_rfl, rfl⟩) (by assumption) ?rs6; case' rs6 => (simp only [List.getElem_toArray, List.getElem_cons_zero, List.getElem_cons_succ, Act.put, List.setIfInBounds_toArray, List.set_cons_zero, List.set_cons_succ])); (refine wpAnyL_take (i := 6) (oi := _) (v := undef) rfl (by kernel_rfl) (by kernel_rfl) (by kernel_rfl) (fun _ _ _ h => h) (Or.inr ⟨by first | rfl | kernel_rfl, rfl⟩) (by assumption) ?rs7; case' rs7 => (simp only [List.getElem_toArray, List.getElem_cons_zero, List.getElem_cons_succ, Act.put, List.setIfInBounds_toArray, List.set_cons_zero, List.set_cons_succ])); (refine wpAnyL_take (i := 7) (oi := _) (v := undef) rfl (by kernel_rfl) (by kernel_rfl) (by kernel_rfl) (fun _ _ _ h => h) (Or.inr ⟨by first | rfl | kernel_rfl, rfl⟩) (by assumption) ?rs8; case' rs8 => (simp only [List.getElem_toArray, List.getElem_cons_zero, List.getElem_cons_succ, Act.put, List.setIfInBounds_toArray, List.set_cons_zero, List.set_cons_succ])); (refine wpAnyL_take (i := 8) (oi := _) (v := ?_) rfl (by kernel_rfl) (by kernel_rfl) (by kernel_rfl) (fun _ _ _ h => h) (Or.inl ⟨by first | rfl | kernel_rfl, ?hy9⟩) (by assumption) ?rs9; (case hy9 => (intro w hSw; (try dsimp only at hSw); go_simp; first | done | with_reducible rfl)); case' rs9 => (simp only [List.getElem_toArray, List.getElem_cons_zero, List.getElem_cons_succ, Act.put, List.setIfInBounds_toArray, List.set_cons_zero, List.set_cons_succ])); (refine wpAnyL_take (i := 9) (oi := _) (v := ?_) rfl (by kernel_rfl) (by kernel_rfl) (by kernel_rfl) (fun _ _ _ h => h) (Or.inl ⟨by first | rfl | kernel_rfl, ?hy10⟩) (by assumption) ?rs10; (case hy10 => (intro w hSw; (try dsimp only at hSw); go_simp; first | done | with_reducible rfl)); case' rs10 => (simp only [List.getElem_toArray, List.getElem_cons_zero, List.getElem_cons_succ, Act.put, List.setIfInBounds_toArray, List.set_cons_zero, List.set_cons_succ])); skip
      refine wpAnyL_done (by kernel_rfl) ?_ _
      go_wp2
      go_meet
      exact ⟨rfl, D1⟩
    · have hgt : l > -9218868437227405312 := by omega
      obtain ⟨K0, hK0⟩ : ∃ K0, cmpv (SV l) s = K0 := ⟨_, rfl⟩
      have hKs : (K0 == 0) = sm := by
        rw [HSM.out, ← hK0]
        rcases cmpv3 (SV l) s with ⟨a, b⟩ | ⟨a, b⟩ | ⟨a, b⟩ <;> rw [a]
        · symm; simp; omega
        · symm; simp; omega
        · symm; simp; omega
      have HKs := Lib.hid hKs
      clear hKs hm
      (refine wp_region_L (S := fun w' => w'.cell? ⟨w.heap.size, 0, none⟩ = some (.bool b1) ∧ w'.cell? ⟨w.heap.size, 1, none⟩ = some (.slice A1 n1 c1) ∧ w'.cell? ⟨w.heap.size, 2, none⟩ = some (.int .i64 t)) (nl := 1000000) (by kernel_rfl) ?_ (fun hHeld => ?_); focus (exact KB.out _ D1))
      (refine wpAnyL_take (i := 0) (oi := _) (v := ?_) rfl (by kernel_rfl) (by kernel_rfl) (by kernel_rfl) (fun _ _ _ h => h) (Or.inl ⟨by first | rfl | kernel_rfl, ?hy11⟩) (by assumption) ?rs11; (case hy11 => (intro w hSw; (try dsimp only at hSw); go_simp; first | done | with_reducible rfl)); case' rs11 => (simp only [List.getElem_toArray, List.getElem_cons_zero, List.getElem_cons_succ, Act.put, List.setIfInBounds_toArray, List.set_cons_zero, List.set_cons_succ])); (refine wpAnyL_take (i := 1) (oi := _) (v := ?_) rfl (by kernel_rfl) (by kernel_rfl) (by kernel_rfl) (fun _ _ _ h => h) (Or.inl ⟨by first | rfl | kernel_rfl, ?hy12⟩) (by assumption) ?rs12; (case hy12 => (intro w hSw; (try dsimp only at hSw); go_simp; first | done | with_reducible rfl)); case' rs12 => (simp only [List.getElem_toArray, List.getElem_cons_zero, List.getElem_cons_succ, Act.put, List.setIfInBounds_toArray, List.set_cons_zero, List.set_cons_succ])); (refine wpAnyL_take (i := 2) (oi := _) (v := ?_) rfl (by kernel_rfl) (by kernel_rfl) (by kernel_rfl) (fun _ _ _ h => h) (Or.inl ⟨by first | rfl | kernel_rfl, ?hy13⟩) (by assumption) ?rs13; (case hy13 => (intro w hSw; (try dsimp only at hSw); go_simp; first | done | with_reducible rfl)); case' rs13 => (simp only [List.getElem_toArray, List.getElem_cons_zero, List.getElem_cons_succ, Act.put, List.setIfInBounds_toArray, List.set_cons_zero, List.set_cons_succ])); (refine wpAnyL_take (i := 3) (oi := _) (v := ?_) rfl (by kernel_rfl) (by kernel_rfl) (by kernel_rfl) (fun _ _ _ h => h) (Or.inl ⟨by first | rfl | kernel_rfl, ?hy14⟩) (by assumption) ?rs14; (case hy14 => (intro w hSw; (try dsimp only at hSw); go_simp; first | done | with_reducible rfl)); case' rs14 => (simp only [List.getElem_toArray, List.getElem_cons_zero, List.getElem_cons_succ, Act.put, List.setIfInBounds_toArray, List.set_cons_zero, List.set_cons_succ])); (refine wpAnyL_take (i := 5) (oi := _) (v := ?_) rfl (by kernel_rfl) (by kernel_rfl) (by kernel_rfl) (fun _ _ _ h => h) (Or.inl ⟨by first | rfl | kernel_rfl, ?hy15⟩) (by assumption) ?rs15; (case hy15 => (intro w hSw; (try dsimp only at hSw); go_simp; first | done | with_reducible rfl)); case' rs15 => (simp only [List.getElem_toArray, List.getElem_cons_zero, List.getElem_cons_succ, Act.put, List.setIfInBounds_toArray, List.set_cons_zero, List.set_cons_succ])); skip
      (refine wpAnyL_one (i := 4) (o := _) (by kernel_rfl) rfl (fun K hK => ?_); clear hHeld; simp only [List.getElem_toArray, List.getElem_cons_zero, List.getElem_cons_succ]; go_simp; (go_at_call 122; (with_reducible refine (RV.out _ _ lb (by omega)).mono ?_); rintro e w2 ⟨b2, A2, n2, c2, t2, z2, rfl, hz2, y1, y2, y3, y4, hb2⟩; have D1 := D1.trans (hb2.mono D1.size)); refine hK.out _ _ ?_ (fun hHeld => ?_); focus (intro _; exact KB.out _ D1)); have hHeld := hHeld (by decide); clear hK K; (try simp only [Act.put, List.setIfInBounds_toArray, List.set_cons_zero, List.set_cons_succ])
      (refine wpAnyL_one (i := 6) (o := _) (by kernel_rfl) rfl (fun K hK => ?_); clear hHeld; simp only [List.getElem_toArray, List.getElem_cons_zero, List.getElem_cons_succ]; go_simp; (go_at_call 13; (with_reducible refine (CQ.out _ _ _ D1 (RetS.qs hz2 y1 y2 y3 y4)).mono ?_); rintro e w3 ⟨rfl, hb3⟩; have D1 := D1.trans (hb3.mono D1.size)); refine hK.out _ _ ?_ (fun hHeld => ?_); focus (intro _; exact KB.out _ D1)); have hHeld := hHeld (by decide); clear hK K; (try simp only [Act.put, List.setIfInBounds_toArray, List.set_cons_zero, List.set_cons_succ])
      (refine wpAnyL_take (i := 7) (oi := _) (v := ?_) rfl (by kernel_rfl) (by kernel_rfl) (by kernel_rfl) (fun _ _ _ h => h) (Or.inl ⟨by first | rfl | kernel_rfl, ?hy16⟩) (by assumption) ?rs16; (case hy16 => (intro w hSw; (try dsimp only at hSw); go_simp; first | done | with_reducible rfl)); case' rs16 => (simp only [List.getElem_toArray, List.getElem_cons_zero, List.getElem_cons_succ, Act.put, List.setIfInBounds_toArray, List.set_cons_zero, List.set_cons_succ])); (refine wpAnyL_take (i := 8) (oi := _) (v := ?_) rfl (by kernel_rfl) (by kernel_rfl) (by kernel_rfl) (fun _ _ _ h => h) (Or.inl ⟨by first | rfl | kernel_rfl, ?hy17⟩) (by assumption) ?rs17; (case hy17 => (intro w hSw; (try dsimp only at hSw); go_simp; first | done | with_reducible rfl)); case' rs17 => (simp only [List.getElem_toArray, List.getElem_cons_zero, List.getElem_cons_succ, Act.put, List.setIfInBounds_toArray, List.set_cons_zero, List.set_cons_succ])); (refine wpAnyL_take (i := 9) (oi := _) (v := ?_) rfl (by kernel_rfl) (by kernel_rfl) (by kernel_rfl) (fun _ _ _ h => h) (Or.inl ⟨by first | rfl | kernel_rfl, ?hy18⟩) (by assumption) ?rs18; (case hy18 => (intro w hSw; (try dsimp only at hSw); go_simp; first | done | with_reducible rfl)); case' rs18 => (simp only [List.getElem_toArray, List.getElem_cons_zero, List.getElem_cons_succ, Act.put, List.setIfInBounds_toArray, List.set_cons_zero, List.set_cons_succ])); skip
      refine wpAnyL_done (by kernel_rfl) ?_ _
      go_wp2
      go_meet
      exact ⟨by rw [HKs.out], D1⟩
  case rest =>
    obtain ⟨rfl, hD⟩ := hcut
    have D := hD
    clear hD LR CQ
    by_cases hA : sm = true ∧ more = 0
    · obtain ⟨rfl, rfl⟩ := hA
      have e1 : F.num l = X := by rw [← HX.out]; unfold xR; rw [if_pos ⟨hsm, rfl⟩]
      have e2 : false = Lo := by rw [← HLo.out]; unfold lR; rw [hsm]; rfl
      rw [e1] at RK
      subst e2
      clear hsm HSM hlo e1 HX HLo
      go_wp2_with (first
        | (go_at_call 123; (with_reducible refine (RK.out _).mono ?_); rintro e w7 ⟨rfl, rfl⟩))
      go_ret2
      exact ⟨rfl, D0.out.trans (D.out.mono D0.out.size)⟩
    · have e1 : X = tellv (rkR s (loR s l more) more mode) (negR s more) := by rw [← HX.out]; unfold xR; rw [if_neg (fun h => hA ⟨hsm.symm.trans h.1, h.2⟩)]
      have e2 : true = Lo := by rw [← HLo.out]; unfold lR; rw [hsm]; cases sm <;> simp at hA ⊢; exact hA
      subst e2
      clear HX HLo
      have hB : ∃ lo, loR s l more = lo ∧ -9218868437227405312 ≤ lo ∧ lo < 9218868437227405312 ∧ ((sm = true ∧ (more == 0) = false ∧ more < 0 ∧ l = lo + 1) ∨ (sm = true ∧ (more == 0) = false ∧ ¬ more < 0 ∧ lo = l) ∨ (sm = false ∧ lo = l)) := by
        refine ⟨_, rfl, hlo, ?_, ?_⟩
        · unfold loR; split <;> omega
        · unfold loR
          rw [hsm]
          cases sm
          · right; right; exact ⟨rfl, by simp⟩
          · have hm0 : more ≠ 0 := fun h => hA ⟨rfl, h⟩
            by_cases h1 : more < 0
            · left; exact ⟨rfl, by simp [hm0], h1, by rw [if_pos ⟨rfl, h1⟩]; omega⟩
            · right; left; exact ⟨rfl, by simp [hm0], h1, by rw [if_neg (fun h => h1 h.2)]⟩
      obtain ⟨lo, hloe, lo1, lo2, hB⟩ := hB
      rw [hloe] at e1
      have NEG : Hid (negR s more = decide (s < 0 ∨ (s = 0 ∧ more < 0))) := rfl
      obtain ⟨neg, hneg⟩ : ∃ neg, negR s more = neg := ⟨_, rfl⟩
      rw [hneg] at NEG e1
      have hrk : ∃ K K2 U, cmpv (s * 2) (SV lo + SV (lo + 1)) = K ∧ ((K = 0 ∧ K2 = more) ∨ ((K == 0) = false ∧ K2 = K)) ∧ upR mode K2 (lo + 1) neg = U ∧ rkR s lo more mode = if U = true then lo + 1 else lo := by
        refine ⟨_, KR s lo more, _, rfl, ?_, rfl, ?_⟩
        · unfold KR
          by_cases h : cmpv (s * 2) (SV lo + SV (lo + 1)) = 0
          · left; exact ⟨h, by rw [if_pos h]⟩
          · right; exact ⟨by simp [h], by rw [if_neg h]⟩
        · unfold rkR; rw [hneg]
      obtain ⟨K, K2, U, hK, hK2, hU, hrk⟩ := hrk
      rw [hrk] at e1
      have HX := Lib.hid e1
      have TL : Hid (∀ (W : World) (n : Int) (g : Nat), -9218868437227405312 ≤ n → n ≤ 9218868437227405312 → W.cell? ⟨g, 0, none⟩ = some (.bool neg) → Calls Tryz.prog 124 #[.int .i64 n, .pointer (some ⟨g, 0, none⟩)] W fun e w' => e = .returned (.tuple #[.int .u64 (tellv n neg), .bool true]) ∧ W = w') := fun W n g h0 h1 hg => tell_c n neg g W h0 h1 hg
      have leaf := up_leaf hmd hU
      have CK : Hid (∀ (W : World) (v v' : Value), QS (M + 1) T W v (s * 2) → QS Ma Ta W v' (SV lo + SV (lo + 1)) → Calls Tryz.prog 13 #[v, v'] W fun e w' => e = .returned (.int .i64 K) ∧ Below W.heap.size W w') := fun W v v' h1 h2 => by
        have := CC.out W v v' _ _ h1 h2
        rwa [hK] at this
      clear CC
      have HLF := Lib.hid leaf
      have HK2 := Lib.hid hK2
      have w1 : IntKind.i64.wrap (lo + 1) = lo + 1 := IntWalk.i64_in _ (by omega)
      have w2 : IntKind.i64.wrap (lo + 1 - 1) = lo := by rw [show lo + 1 - 1 = lo by omega]; exact IntWalk.i64_in _ (by omega)
      clear hsm HSM hlo hA hloe hneg hK hU hrk leaf hK2 hmd HL RK lb lb2 e1
      rcases hB with ⟨rfl, hm1, hm2, rfl⟩ | ⟨rfl, hm1, hm2, rfl⟩ | ⟨rfl, rfl⟩
      all_goals (
        go_upto_region 8 with fail
        go_cut [11] (fun v11 wx => ∃ g, v11 = .pointer (some ⟨g, 0, none⟩) ∧ Hid (g < wx.heap.size ∧ wx.cell? ⟨g, 0, none⟩ = some (.bool neg)) ∧ Hid (Below W0.heap.size W0 wx))
        case first =>
          obtain ⟨p0, p1, p2⟩ := KB.out _ D.out
          have hc3 : (cmpv s 0 = -1 ∧ neg = true) ∨ (cmpv s 0 = 0 ∧ more < 0 ∧ neg = true) ∨ (cmpv s 0 = 0 ∧ ¬ more < 0 ∧ neg = false) ∨ (cmpv s 0 = 1 ∧ neg = false) := by
            rw [NEG.out]
            rcases cmpv3 s 0 with ⟨k, hk⟩ | ⟨k, hk⟩ | ⟨k, hk⟩
            · left; exact ⟨k, by rw [decide_eq_true_iff]; omega⟩
            · by_cases hm : more < 0
              · right; left; exact ⟨k, hm, by rw [decide_eq_true_iff]; omega⟩
              · right; right; left; exact ⟨k, hm, by rw [decide_eq_false_iff_not]; omega⟩
            · right; right; right; exact ⟨k, by rw [decide_eq_false_iff_not]; omega⟩
          rcases hc3 with ⟨k, rfl⟩ | ⟨k, hm9, rfl⟩ | ⟨k, hm9, rfl⟩ | ⟨k, rfl⟩ <;> rw [k] at C0 <;> clear k
          all_goals (
            first
              | (exfalso; omega)
              | (go_wp2_with (first
                  | (go_at_call 13; (with_reducible refine (C0.out _ D.out).mono ?_); rintro e w5 ⟨rfl, hb⟩; have D := Lib.hid (D.out.trans (hb.mono D.out.size)); clear hb; obtain ⟨p0, p1, p2⟩ := KB.out _ D.out))
                 go_meet
                 exact ⟨_, rfl, ⟨by simp, (Blk.new _ _ _).at_ 0 (by first | rfl | (simp; omega))⟩, D.out.alloc D.out.size _⟩))
        case rest =>
          obtain ⟨g, rfl, hg, hD⟩ := hcut
          have D := hD
          clear hD
          obtain ⟨hg1, hg2⟩ := hg.out
          have GN : Hid (∀ W, Below wc.heap.size wc W → W.cell? ⟨g, 0, none⟩ = some (.bool neg)) := fun W hW => (hW.cell (p := ⟨g, 0, none⟩) hg1).trans hg2
          have E := Lib.hid (Below.refl wc.heap.size wc)
          clear hg1 hg hg2 NEG C0
          obtain ⟨p0, p1, p2⟩ := KB.out _ D.out
          go_upto_region 11 with (first
            | (go_at_call 125; (with_reducible refine (SHc.out _ D.out).mono ?_); rintro e w5 ⟨b5, A5, n5, c5, t5, z5, rfl, hz, y1, y2, y3, y4, hb⟩; have Q5 := RetS.qs hz y1 y2 y3 y4; have D := Lib.hid (D.out.trans (hb.mono D.out.size)); have E := Lib.hid (E.out.trans (hb.mono E.out.size)); clear hb hz y1 y2 y3 y4)
            | (go_at_call 122; (with_reducible refine (RV.out _ lo lo1 (by omega)).mono ?_); rintro e w6 ⟨b6, A6, n6, c6, t6, z6, rfl, hz, y1, y2, y3, y4, hb⟩; have Q5 := Q5.below hb; have Q6 := RetS.qs hz y1 y2 y3 y4; have D := Lib.hid (D.out.trans (hb.mono D.out.size)); have E := Lib.hid (E.out.trans (hb.mono E.out.size)); clear hb hz y1 y2 y3 y4)
            | (go_at_call 122; (with_reducible refine (RV.out _ (lo + 1) (by omega) (by omega)).mono ?_); rintro e w7 ⟨b7, A7, n7, c7, t7, z7, rfl, hz, y1, y2, y3, y4, hb⟩; have Q5 := Q5.below hb; have Q6 := Q6.below hb; have Q7 := RetS.qs hz y1 y2 y3 y4; have D := Lib.hid (D.out.trans (hb.mono D.out.size)); have E := Lib.hid (E.out.trans (hb.mono E.out.size)); clear hb hz y1 y2 y3 y4)
            | (go_at_call 32; (with_reducible refine (ADc.out _ _ _ _ _ Q6 Q7).mono ?_); rintro e w8 ⟨b8, A8, n8, c8, t8, z8, rfl, hz, y1, y2, y3, y4, hb⟩; have Q5 := Q5.below hb; have Q8 := RetS.qs hz y1 y2 y3 y4; have D := Lib.hid (D.out.trans (hb.mono D.out.size)); have E := Lib.hid (E.out.trans (hb.mono E.out.size)); clear hb hz y1 y2 y3 y4)
            | (go_at_call 13; (with_reducible refine (CK.out _ _ _ Q5 Q8).mono ?_); rintro e w9 ⟨rfl, hb⟩; have D := Lib.hid (D.out.trans (hb.mono D.out.size)); have E := Lib.hid (E.out.trans (hb.mono E.out.size)); clear hb))
          have gc := GN.out _ E.out
          clear Q5 Q6 Q7 Q8 SHc RV ADc CK
          rcases HK2.out with ⟨rfl, hk2⟩ | ⟨hk, hk2⟩ <;> subst hk2 <;> clear HK2
          all_goals (
            rcases HLF.out with ⟨rfl, rfl⟩ | ⟨rfl, rfl⟩ | ⟨rfl, ⟨rfl, rfl⟩ | ⟨rfl, rfl⟩⟩ | ⟨rfl, k0, hU⟩ | ⟨rfl, k0, ⟨k1, rfl⟩ | ⟨k1, rfl⟩⟩ | ⟨rfl, k0, ⟨rfl, rfl⟩ | ⟨rfl, rfl⟩⟩ | ⟨rfl, k0, ⟨k1, rfl⟩ | ⟨k1, rfl⟩⟩
            all_goals (
              clear HLF
              first
                | (exfalso; rw [k0] at hk; exact absurd hk (by decide))
                | (exfalso; rw [k0] at hm1; exact absurd hm1 (by decide))
                | (exfalso; omega)
                | (try cases U
                   all_goals (
                     go_wp2_with (first
                       | (go_at_call 124; (with_reducible refine (TL.out _ lo _ lo1 (by omega) (GN.out _ E.out)).mono ?_); rintro e w10 ⟨rfl, rfl⟩)
                       | (go_at_call 124; (with_reducible refine (TL.out _ (lo + 1) _ (by omega) (by omega) (GN.out _ E.out)).mono ?_); rintro e w10 ⟨rfl, rfl⟩))
                     all_goals (
                       go_ret2
                       exact ⟨by rw [HX.out]; rfl, D0.out.trans (D.out.mono D0.out.size)⟩))))))
end QC
end Go.Proofs.YtelblhgagpkjmaaGreatDoor

