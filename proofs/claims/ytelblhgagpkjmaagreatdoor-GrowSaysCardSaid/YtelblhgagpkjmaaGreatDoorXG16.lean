/-
  The document's own words for expansions: a list grown, the sum of all.
-/
import Derived.Test.YtelblhgagpkjmaaGreatDoorXG14
import Derived.Test.YtelblhgagpkjmaaGreatDoorXG8
import Derived.Test.YtelblhgagpkjmaaGreatDoorXR2
import Derived.Test.YtelblhgagpkjmaaGreatDoorA4
namespace Go.Proofs.YtelblhgagpkjmaaGreatDoor
set_option linter.unusedVariables false
set_option linter.unusedSimpArgs false
open Go.RowKit
set_option linter.unusedVariables false
set_option linter.unusedSimpArgs false
namespace XC
open Z (Nz Tz cmpv big)
open ZC DC RC QC SC VC PC
/-- a list, and whether there was room -/
def RetLb (w : World) (o : Bool) (L : List Int) (e : Ending) (w' : World) : Prop :=
  ∃ A n c, e = .returned (.tuple #[.slice A n c, .bool o]) ∧ Hid (n = L.length) ∧ Hid (Sl .u64 w' (.slice A n c) L) ∧ Below w.heap.size w w'
theorem AG_cons {q y : Int} {t : List Int} (fq : fi q) (fy : fi y) : AG q (y :: t) = if F.exq (ad q y) = 2047 then none else (AG (ad q y) t).map fun h => if F.cls (T2 q y).2.1 = 1 then h else (T2 q y).2.1 :: h := by
  have e : T2 q y = if F.exq (ad q y) = 2047 then (0, 0, 2) else (ad q y, ad (sb q (sb (ad q y) y)) (sb y (sb (ad q y) (sb (ad q y) y))), 0) := by
    unfold T2
    rw [if_neg (by rintro (k | k); exact fq.2.2 k; exact fy.2.2 k)]
  rw [AG]
  by_cases h : F.exq (ad q y) = 2047
  · rw [if_pos h] at e ⊢
    rw [e, if_pos (by decide)]
  · rw [if_neg h] at e ⊢
    rw [e, if_neg (by simp)]
theorem T2_r {q y : Int} (fq : fi q) (fy : fi y) (h : ¬ F.exq (ad q y) = 2047) : (T2 q y).2.1 = ad (sb q (sb (ad q y) y)) (sb y (sb (ad q y) (sb (ad q y) y))) := by
  unfold T2
  rw [if_neg (by rintro (k | k); exact fq.2.2 k; exact fy.2.2 k), if_neg h]
theorem drop_cons' {L : List Int} {k : Nat} (h : k < L.length) : L.drop k = L.getD k 0 :: L.drop (k + 1) := by
  rw [List.drop_eq_getElem_cons h, List.getD_eq_getElem?_getD, List.getElem?_eq_getElem h]; rfl
theorem map_map' {o : Option (List Int)} {O : List Int} {f : List Int → List Int} {O' : List Int} (h : ∀ r, O ++ f r = O' ++ r) : (o.map f).map (fun r => O ++ r) = o.map fun r => O' ++ r := by
  cases o with
  | none => rfl
  | some r => simp [h]
set_option maxRecDepth 100000 in
set_option maxHeartbeats 16000000 in
theorem Grown_c (A0 : Option Addr) (n c : Nat) (L : List Int) (x : Int) (w : World) (hs : Sl .u64 w (.slice A0 n c) L) (hf : ∀ y ∈ L, fi y) (fx : fi x) (hl : L.length ≤ 100) :
    Calls Tryz.prog 15 #[.slice A0 n c, .int .u64 x] w (RetLb w (AG x L).isSome ((AG x L).getD [])) := by
  have hn := sl_len hs
  have HS : Hid (∀ W : World, Below w.heap.size w W → Sl .u64 W (.slice A0 n c) L) := fun W h => hs.below h
  have HF := Lib.hid hf
  have HN := Lib.hid hn
  rw [← hn] at hl
  have D0 := Lib.hid (Below.refl w.heap.size w)
  have SP : Hid (∀ (W : World) (q y : Int), fi q → fi y → Calls Tryz.prog 41 #[.int .u64 q, .int .u64 y] W (DC.RetB W (.tuple #[.int .u64 (ad q y), .int .u64 (ad (sb q (sb (ad q y) y)) (sb y (sb (ad q y) (sb (ad q y) y)))), .int .u64 (sb y (sb (ad q y) q))]))) := fun W q y h1 h2 => GC.SumParts_c q y W ⟨h1.1, h1.2.1⟩ ⟨h2.1, h2.2.1⟩
  have HV : Hid (∀ (W : World) (x : Int), (0 ≤ x ∧ x ≤ 18446744073709551615) → Calls Tryz.prog 14 #[.int .u64 x] W (fun e w' => e = .returned (.bool (!decide (F.exq x = 2047))) ∧ W = w')) := fun W x hx => GC.HasVal_c x W hx
  have IZ : Hid (∀ (W : World) (x : Int), (0 ≤ x ∧ x ≤ 18446744073709551615) → Calls Tryz.prog 24 #[.int .u64 x] W fun e w' => e = .returned (.bool (F.cls x == 1)) ∧ W = w') := fun W x hx => GC.IsZero_c x hx.1 hx.2 W
  obtain ⟨R, hR⟩ : ∃ R, R = AG x L := ⟨_, rfl⟩
  rw [← hR]
  have HR := Lib.hid hR
  have FX := Lib.hid fx
  clear hs hf hn fx hR
  go_enter Tryz.func15, Tryz.ntmps15
  go_wp2
  go_loopw [14, 6, 1] (fun iv ov qv wr => ∃ (k : Nat) (A1 : Option Addr) (n1 c1 : Nat) (O : List Int) (q : Int), iv = .int .i64 k ∧ k ≤ n ∧ ov = .slice A1 n1 c1 ∧ qv = .int .u64 q ∧ Hid (fi q) ∧ Hid (R = (AG q (L.drop k)).map fun h => O ++ h) ∧ Hid (O.length ≤ k) ∧ Hid (AC.OwnQ wr w.heap.size (.slice A1 n1 c1) O) ∧ Hid (Below w.heap.size w wr)) (fun iv _ _ _ => n - (intOf iv).toNat)
  case atStart => exact ⟨0, none, 0, 0, [], x, rfl, by omega, rfl, rfl, FX.out, by show _ = _; rw [HR.out]; simp, by show _ ≤ _; simp, Own.nil _ _ _ _, D0.out⟩
  case round =>
    obtain ⟨k, A1, n1, c1, O, q, rfl, hk, rfl, rfl, fq, hR, hO, hQ, hD⟩ := hrel
    by_cases hkn : k < n
    · obtain ⟨ad', c', e, hc', hb, hcell⟩ := (HS.out _ hD.out).at_ k (by rw [← HN.out]; exact hkn)
      injection e with e1 e2 e3
      subst e1
      clear e2 e3 hc' c' hb
      obtain ⟨y, hy⟩ : ∃ y, L.getD k 0 = y := ⟨_, rfl⟩
      have hm : y ∈ L := by
        rw [← hy, List.getD_eq_getElem?_getD, List.getElem?_eq_getElem (by rw [← HN.out]; exact hkn)]
        exact List.getElem_mem _
      have fy := HF.out y hm
      have hd := drop_cons' (L := L) (k := k) (by rw [← HN.out]; exact hkn)
      rw [hy] at hcell hd
      have hR' := hR.out
      rw [hd, AG_cons fq.out fy] at hR'
      have bq : 0 ≤ q ∧ q ≤ 18446744073709551615 := ⟨fq.out.1, fq.out.2.1⟩
      have by' : 0 ≤ y ∧ y ≤ 18446744073709551615 := ⟨fy.1, fy.2.1⟩
      have bs := ad_bd bq by'
      have ba := sb_bd bs by'
      have br := ad_bd (sb_bd bq ba) (sb_bd by' (sb_bd bs ba))
      have SPq := Lib.hid (SP.out wr q y fq.out fy)
      have er := T2_r fq.out fy
      have HV1 : Hid (∀ W : World, Calls Tryz.prog 14 #[.int .u64 (ad q y)] W (fun e w' => e = .returned (.bool (!decide (F.exq (ad q y) = 2047))) ∧ W = w')) := fun W => HV.out W _ bs
      obtain ⟨s, hs⟩ : ∃ s, s = ad q y := ⟨_, rfl⟩
      obtain ⟨r, hr⟩ : ∃ r, r = ad (sb q (sb (ad q y) y)) (sb y (sb (ad q y) (sb (ad q y) y))) := ⟨_, rfl⟩
      rw [← hr] at SPq er br
      rw [← hs] at SPq er HV1 bs hR'
      have IZ1 : Hid (∀ W : World, Calls Tryz.prog 24 #[.int .u64 r] W fun e w' => e = .returned (.bool (F.cls r == 1)) ∧ W = w') := fun W => IZ.out W r br
      generalize sb y (sb s q) = f at *
      clear hy hm fy hd bq by' ba hs hr
      by_cases h0 : F.exq s = 2047
      · rw [decide_eq_true h0] at HV1
        rw [if_pos h0] at hR'
        have HR0 : Hid (R = none) := by show _ = _; rw [hR']; rfl
        clear h0 er hR' IZ1
        go_wp2_with (first
          | (go_at_call 41; (with_reducible refine (SPq.out).mono ?_); rintro e w2 ⟨rfl, hb⟩; have hD := Lib.hid (hD.out.trans (hb.mono hD.out.size)); clear hb)
          | (go_at_call 14; (with_reducible refine (HV1.out _).mono ?_); rintro e w3 ⟨rfl, rfl⟩))
        go_ret2
        rw [HR0.out]
        exact ⟨_, _, _, rfl, rfl, Sl.nil _ _ _ _, hD.out⟩
      · have fs : Hid (fi s) := ⟨bs.1, bs.2, h0⟩
        rw [decide_eq_false h0] at HV1
        rw [if_neg h0, er h0] at hR'
        clear h0 er
        by_cases hz : F.cls r = 1
        · simp only [if_pos hz] at hR'
          rw [map_map' (O' := O) (fun _ => rfl)] at hR'
          rw [show (F.cls r == 1) = true by simp [hz]] at IZ1
          have HR1 := Lib.hid hR'
          clear hz hR'
          go_wp2_with (first
            | (go_at_call 41; (with_reducible refine (SPq.out).mono ?_); rintro e w2 ⟨rfl, hb⟩; have hQ := Lib.hid (Own.below' hQ.out hb); have hD := Lib.hid (hD.out.trans (hb.mono hD.out.size)); clear hb)
            | (go_at_call 14; (with_reducible refine (HV1.out _).mono ?_); rintro e w3 ⟨rfl, rfl⟩)
            | (go_at_call 24; (with_reducible refine (IZ1.out _).mono ?_); rintro e w4 ⟨rfl, rfl⟩))
          exact ⟨⟨k + 1, _, _, _, _, _, by simp, by omega, rfl, rfl, fs.out, HR1.out, (show _ ≤ _ by have := hO.out; omega), hQ.out, hD.out⟩, by simp only [intOf]; omega⟩
        · simp only [if_neg hz] at hR'
          rw [map_map' (O' := O ++ [r]) (fun _ => by simp)] at hR'
          rw [show (F.cls r == 1) = false by simp [hz]] at IZ1
          have HR1 := Lib.hid hR'
          have HK : Hid (k ≤ 100) := (show k ≤ 100 by omega)
          clear hz hR'
          go_wp2_with (first
            | (go_at_call 41; (with_reducible refine (SPq.out).mono ?_); rintro e w2 ⟨rfl, hb⟩; have hQ := Lib.hid (Own.below' hQ.out hb); have hD := Lib.hid (hD.out.trans (hb.mono hD.out.size)); clear hb)
            | (go_at_call 14; (with_reducible refine (HV1.out _).mono ?_); rintro e w3 ⟨rfl, rfl⟩)
            | (go_at_call 24; (with_reducible refine (IZ1.out _).mono ?_); rintro e w4 ⟨rfl, rfl⟩)
            | (at_builtin; refine AC.appq AC.el_u64 rfl (.tmp 31) (.tmp 33) rfl rfl hQ.out r rfl (by have := hO.out; have := HK.out; omega) hD.out.size ?_; intro A2 n2 c2 w2 hn2 hO2 hg2 hat2; have Q2 := Lib.hid hO2; have D2 := Lib.hid (hD.out.grown hg2 hD.out.size (fun k hk => (Own.lt hQ.out k hk).1)); clear hO2 hg2 hat2))
          exact ⟨⟨k + 1, _, _, _, _, _, by simp, by omega, rfl, rfl, fs.out, HR1.out, (show _ ≤ _ by have := hO.out; simp; omega), Q2.out, D2.out⟩, by simp only [intOf]; omega⟩
    · obtain rfl : n = k := by omega
      have hR' := hR.out
      rw [List.drop_of_length_le (by rw [← HN.out]; omega)] at hR'
      have IZ1 := Lib.hid (IZ.out wr q ⟨fq.out.1, fq.out.2.1⟩)
      unfold AG at hR'
      by_cases hz : F.cls q = 1
      · rw [if_pos hz] at hR'
        rw [show (F.cls q == 1) = true by simp [hz]] at IZ1
        have HR1 : Hid (R = some O) := by show _ = _; rw [hR']; simp
        clear hz hR'
        go_wp2_with (go_at_call 24; (with_reducible refine (IZ1.out).mono ?_); rintro e w4 ⟨rfl, rfl⟩)
        go_ret2
        rw [HR1.out]
        exact ⟨_, _, _, rfl, (Own.sl hQ.out).len_.1, Own.sl hQ.out, hD.out⟩
      · rw [if_neg hz] at hR'
        rw [show (F.cls q == 1) = false by simp [hz]] at IZ1
        have HR1 : Hid (R = some (O ++ [q])) := by show _ = _; rw [hR']; simp
        clear hz hR'
        go_wp2_with (first
          | (go_at_call 24; (with_reducible refine (IZ1.out).mono ?_); rintro e w4 ⟨rfl, rfl⟩)
          | (at_builtin; refine AC.appq AC.el_u64 rfl (.tmp 40) (.tmp 42) rfl rfl hQ.out q rfl (by have := hO.out; omega) hD.out.size ?_; intro A2 n2 c2 w2 hn2 hO2 hg2 hat2; have Q2 := Lib.hid hO2; have D2 := Lib.hid (hD.out.grown hg2 hD.out.size (fun k hk => (Own.lt hQ.out k hk).1)); clear hO2 hg2 hat2))
        go_ret2
        rw [HR1.out]
        exact ⟨_, _, _, rfl, (Own.sl Q2.out).len_.1, Own.sl Q2.out, D2.out⟩
end XC
end Go.Proofs.YtelblhgagpkjmaaGreatDoor
