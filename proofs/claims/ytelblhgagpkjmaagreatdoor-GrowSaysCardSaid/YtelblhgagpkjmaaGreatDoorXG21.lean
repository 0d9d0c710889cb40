/-
  Package grow: isZero, lacksValue, value, isFar, the closure of apart; slices.ContainsFunc of each function that is handed to it.
-/
import Derived.Test.YtelblhgagpkjmaaGreatDoorF24
namespace Go.Proofs.YtelblhgagpkjmaaGreatDoor
set_option linter.unusedVariables false
set_option linter.unusedSimpArgs false
open Go.RowKit
set_option linter.unusedVariables false
set_option linter.unusedSimpArgs false
namespace XC
open L NC NK DC RC SC PC QC IC
open Z (cmpv)
/-- the result of a call: a list of numbers, and an error -/
def RetL (w : World) (er : Int) (L : List Int) (e : Ending) (w' : World) : Prop :=
  ∃ A n c, e = .returned (.tuple #[.slice A n c, .int .i64 er]) ∧ Hid (n = L.length) ∧ Hid (Sl .u64 w' (.slice A n c) L) ∧ Below w.heap.size w w'
theorem sl_len {w : World} {A : Option Addr} {n c : Nat} {L : List Int} (h : Sl .u64 w (.slice A n c) L) : n = L.length := by
  obtain ⟨A', c', e, _⟩ := h.open_
  injection e with e1 e2 e3
theorem isZero_g (x : Int) (w : World) (hx : 0 ≤ x ∧ x ≤ 18446744073709551615) : Calls Tryz.prog 22 #[.int .u64 x] w (DC.RetB w (.bool (decide (F.cls x = 1)))) := by
  have KC := Lib.hid (FloatC.Class_c x hx.1 hx.2 w)
  generalize F.cls x = q at *
  clear hx
  go_enter Tryz.func22, Tryz.ntmps22
  go_wp2_with (go_at_call 47; (with_reducible refine (KC.out).mono ?_); rintro e w1 ⟨rfl, rfl⟩)
  go_ret
  exact ⟨ret_bool (by by_cases h : q = 1 <;> simp [h]), Below.refl _ _⟩
theorem lacksValue_g (x : Int) (w : World) (hx : 0 ≤ x ∧ x ≤ 18446744073709551615) (hT : TabD w) : Calls Tryz.prog 20 #[.int .u64 x] w (DC.RetB w (.bool (decide (F.exq x = 2047)))) := by
  have D := Lib.hid (Below.refl w.heap.size w)
  have OF := Lib.hid (Of_d x hx.1 hx.2 w hT)
  have e : decide (F.exq x = 2047) = ((OfD x).e != 0) := by
    by_cases q : F.exq x = 2047
    · rw [decide_eq_true q]
      unfold OfD
      rw [if_pos q]; rfl
    · rw [decide_eq_false q, (of_fit (show fi x from ⟨hx.1, hx.2, q⟩)).1]; rfl
  rw [e]
  generalize OfD x = r at *
  clear hx hT e
  go_enter Tryz.func20, Tryz.ntmps20
  go_wp2_with (go_at_call 44; (with_reducible refine (OF.out).mono ?_); rintro e w2 ⟨b2, A2, n2, c2, x2, rfl, hv, hb⟩; have s := hb.alloc hb.size (.cells #[.bool b2, .slice A2 n2 c2, .int .i64 x2] 26); have D := Lib.hid (D.out.trans (s.mono D.out.size)); clear hv hb s)
  go_ret
  exact ⟨rfl, D.out⟩
set_option maxHeartbeats 1000000 in
theorem value_g (x : Int) (w : World) (hx : 0 ≤ x ∧ x ≤ 18446744073709551615) (hT : TabD w) : Calls Tryz.prog 18 #[.int .u64 x] w (RetG w (OfD x).d) := by
  obtain ⟨W0, hW0, D0, ZS, KB⟩ := res0 w
  have O1 := Lib.hid (Of_d x hx.1 hx.2 W0 (hT.below D0))
  have KB := Lib.hid KB
  have D0 := Lib.hid D0
  have HW0 := Lib.hid hW0
  generalize OfD x = r1 at *
  obtain ⟨e1, d1⟩ := r1
  clear hW0 hT hx
  go_enter Tryz.func18, Tryz.ntmps18
  go_wp2_with (go_at_call 44; rw [HW0.out]; (with_reducible refine (O1.out).mono ?_); rintro e w5 ⟨b5, A5, n5, c5, x5, rfl, hv5, hb0⟩; have s := hb0.alloc hb0.size (.cells #[.bool b5, .slice A5 n5 c5, .int .i64 x5] 26); have hv5 := hv5.below (al1 w5 (.cells #[.bool b5, .slice A5 n5 c5, .int .i64 x5] 26)); have D := Lib.hid s; have R2 := KB.out _ s; have t0 := R2.at_ 0 rfl; have t1 := R2.at_ 1 rfl; have t2 := R2.at_ 2 rfl; have f0 := R2.frozen 0; have f1 := R2.frozen 1; have f2 := R2.frozen 2; have R2 := Lib.hid R2; have HV := Lib.hid hv5; clear hb0 s hv5)
  exact bodyPost_ret (v := .agg #[.bool b5, .slice A5 n5 c5, .int .i64 x5]) (by simp [results, Tryz.results18, go_sem, t0, t1, t2]) rfl
    ⟨_, _, _, _, _, rfl, HV.out.set3 R2.out _ _ _ (by intro z h; cases h) (by intro z h; cases h), DC.below3 (D0.out.trans (D.out.mono D0.out.size)) (by omega) _ _ _⟩
theorem IndexFunc_lv (A : Option Addr) (n c : Nat) (L : List Int) (p : Int → Bool) (w : World) (hs : Sl .u64 w (.slice A n c) L) (hl : L.length ≤ 60)
    (hp : ∀ (W : World) (x : Int), Below w.heap.size w W → x ∈ L → Calls Tryz.prog 20 #[.int .u64 x] W (DC.RetB W (.bool (p x)))) :
    Calls Tryz.prog 57 #[.slice A n c, .func (.func 20) #[] #[]] w fun e w' => ∃ r : Int, e = .returned (.int .i64 r) ∧ decide (r ≥ 0) = L.any p ∧ Below w.heap.size w w' := by
  have hn := sl_len hs
  have n60 : n ≤ 60 := by omega
  have HN := Lib.hid hn
  have HS : Hid (∀ W : World, Below w.heap.size w W → Sl .u64 W (.slice A n c) L) := fun W h => hs.below h
  have HP := Lib.hid hp
  have D0 := Lib.hid (Below.refl w.heap.size w)
  clear hs hl hn hp
  go_enter Tryz.func57, Tryz.ntmps57
  go_wp2
  go_loopw [8] (fun iv wr => ∃ k : Nat, iv = .int .i64 k ∧ k ≤ n ∧ Hid (∀ x ∈ L.take k, p x = false) ∧ Hid (Below w.heap.size w wr)) (fun iv _ => n - (intOf iv).toNat)
  case atStart => exact ⟨0, rfl, by omega, by intro x hx; simp at hx, D0.out⟩
  case round =>
    obtain ⟨k, rfl, hk, hr, hD⟩ := hrel
    by_cases hkn : k < n
    · obtain ⟨ad2, c', e, hc', hb, hcell⟩ := (HS.out _ hD.out).at_ k (by rw [← HN.out]; exact hkn)
      injection e with e1 e2 e3
      subst e1
      clear e2 e3 hc' c' hb
      obtain ⟨x, hx⟩ : ∃ x, L.getD k 0 = x := ⟨_, rfl⟩
      have hx2 : L[k]? = some x := by
        rw [List.getD_eq_getElem?_getD] at hx
        rw [List.getElem?_eq_getElem (by rw [← HN.out]; exact hkn)] at hx ⊢
        rw [← hx]; rfl
      have HX2 := Lib.hid hx2
      have PC := Lib.hid (HP.out wr x hD.out (List.mem_of_getElem? hx2))
      rw [hx] at hcell
      clear hx hx2
      obtain ⟨q, hq⟩ : ∃ q, p x = q := ⟨_, rfl⟩
      rw [hq] at PC
      have HQ := Lib.hid hq
      clear hq
      cases q
      · go_wp2_with (go_at_call 20; (with_reducible refine (PC.out).mono ?_); rintro e w1 ⟨rfl, hb⟩; have hD := Lib.hid (hD.out.trans (hb.mono hD.out.size)); clear hb)
        exact ⟨⟨k + 1, by simp, by omega, by
          intro z hz
          rw [List.take_add_one, HX2.out] at hz
          simp at hz
          rcases hz with hz | rfl
          · exact hr.out z hz
          · exact HQ.out, hD.out⟩, by simp only [intOf]; omega⟩
      · go_wp2_with (go_at_call 20; (with_reducible refine (PC.out).mono ?_); rintro e w1 ⟨rfl, hb⟩; have hD := Lib.hid (hD.out.trans (hb.mono hD.out.size)); clear hb)
        go_ret
        refine ⟨_, rfl, ?_, hD.out⟩
        have hR : L.any p = true := by
          rw [List.any_eq_true]
          exact ⟨x, List.mem_of_getElem? HX2.out, HQ.out⟩
        rw [hR]
        simp
    · have hkn2 : k = n := by omega
      subst hkn2
      have hR : L.any p = false := by
        rw [List.any_eq_false]
        intro x hx
        rw [hr.out x (by rw [HN.out, List.take_length]; exact hx)]
        simp
      go_wp2
      go_ret
      exact ⟨_, rfl, by rw [hR]; decide, hD.out⟩
theorem Contains_lv (A : Option Addr) (n c : Nat) (L : List Int) (p : Int → Bool) (R : Bool) (w : World) (hs : Sl .u64 w (.slice A n c) L) (hl : L.length ≤ 60) (hR : L.any p = R)
    (hp : ∀ (W : World) (x : Int), Below w.heap.size w W → x ∈ L → Calls Tryz.prog 20 #[.int .u64 x] W (DC.RetB W (.bool (p x)))) :
    Calls Tryz.prog 30 #[.slice A n c, .func (.func 20) #[] #[]] w (DC.RetB w (.bool R)) := by
  have IF := Lib.hid (IndexFunc_lv A n c L p w hs hl hp)
  rw [hR] at IF
  clear hs hl hR hp
  go_enter Tryz.func30, Tryz.ntmps30
  go_wp2_with (go_at_call 57; (with_reducible refine (IF.out).mono ?_); rintro e w1 ⟨r, rfl, hr, hb⟩; have HR := Lib.hid hr; have D := Lib.hid hb; clear hr hb)
  go_ret
  exact ⟨ret_bool HR.out, D.out⟩
theorem IndexFunc_iz (A : Option Addr) (n c : Nat) (L : List Int) (p : Int → Bool) (w : World) (hs : Sl .u64 w (.slice A n c) L) (hl : L.length ≤ 60)
    (hp : ∀ (W : World) (x : Int), Below w.heap.size w W → x ∈ L → Calls Tryz.prog 22 #[.int .u64 x] W (DC.RetB W (.bool (p x)))) :
    Calls Tryz.prog 57 #[.slice A n c, .func (.func 22) #[] #[]] w fun e w' => ∃ r : Int, e = .returned (.int .i64 r) ∧ decide (r ≥ 0) = L.any p ∧ Below w.heap.size w w' := by
  have hn := sl_len hs
  have n60 : n ≤ 60 := by omega
  have HN := Lib.hid hn
  have HS : Hid (∀ W : World, Below w.heap.size w W → Sl .u64 W (.slice A n c) L) := fun W h => hs.below h
  have HP := Lib.hid hp
  have D0 := Lib.hid (Below.refl w.heap.size w)
  clear hs hl hn hp
  go_enter Tryz.func57, Tryz.ntmps57
  go_wp2
  go_loopw [8] (fun iv wr => ∃ k : Nat, iv = .int .i64 k ∧ k ≤ n ∧ Hid (∀ x ∈ L.take k, p x = false) ∧ Hid (Below w.heap.size w wr)) (fun iv _ => n - (intOf iv).toNat)
  case atStart => exact ⟨0, rfl, by omega, by intro x hx; simp at hx, D0.out⟩
  case round =>
    obtain ⟨k, rfl, hk, hr, hD⟩ := hrel
    by_cases hkn : k < n
    · obtain ⟨ad2, c', e, hc', hb, hcell⟩ := (HS.out _ hD.out).at_ k (by rw [← HN.out]; exact hkn)
      injection e with e1 e2 e3
      subst e1
      clear e2 e3 hc' c' hb
      obtain ⟨x, hx⟩ : ∃ x, L.getD k 0 = x := ⟨_, rfl⟩
      have hx2 : L[k]? = some x := by
        rw [List.getD_eq_getElem?_getD] at hx
        rw [List.getElem?_eq_getElem (by rw [← HN.out]; exact hkn)] at hx ⊢
        rw [← hx]; rfl
      have HX2 := Lib.hid hx2
      have PC := Lib.hid (HP.out wr x hD.out (List.mem_of_getElem? hx2))
      rw [hx] at hcell
      clear hx hx2
      obtain ⟨q, hq⟩ : ∃ q, p x = q := ⟨_, rfl⟩
      rw [hq] at PC
      have HQ := Lib.hid hq
      clear hq
      cases q
      · go_wp2_with (go_at_call 22; (with_reducible refine (PC.out).mono ?_); rintro e w1 ⟨rfl, hb⟩; have hD := Lib.hid (hD.out.trans (hb.mono hD.out.size)); clear hb)
        exact ⟨⟨k + 1, by simp, by omega, by
          intro z hz
          rw [List.take_add_one, HX2.out] at hz
          simp at hz
          rcases hz with hz | rfl
          · exact hr.out z hz
          · exact HQ.out, hD.out⟩, by simp only [intOf]; omega⟩
      · go_wp2_with (go_at_call 22; (with_reducible refine (PC.out).mono ?_); rintro e w1 ⟨rfl, hb⟩; have hD := Lib.hid (hD.out.trans (hb.mono hD.out.size)); clear hb)
        go_ret
        refine ⟨_, rfl, ?_, hD.out⟩
        have hR : L.any p = true := by
          rw [List.any_eq_true]
          exact ⟨x, List.mem_of_getElem? HX2.out, HQ.out⟩
        rw [hR]
        simp
    · have hkn2 : k = n := by omega
      subst hkn2
      have hR : L.any p = false := by
        rw [List.any_eq_false]
        intro x hx
        rw [hr.out x (by rw [HN.out, List.take_length]; exact hx)]
        simp
      go_wp2
      go_ret
      exact ⟨_, rfl, by rw [hR]; decide, hD.out⟩
theorem Contains_iz (A : Option Addr) (n c : Nat) (L : List Int) (p : Int → Bool) (R : Bool) (w : World) (hs : Sl .u64 w (.slice A n c) L) (hl : L.length ≤ 60) (hR : L.any p = R)
    (hp : ∀ (W : World) (x : Int), Below w.heap.size w W → x ∈ L → Calls Tryz.prog 22 #[.int .u64 x] W (DC.RetB W (.bool (p x)))) :
    Calls Tryz.prog 30 #[.slice A n c, .func (.func 22) #[] #[]] w (DC.RetB w (.bool R)) := by
  have IF := Lib.hid (IndexFunc_iz A n c L p w hs hl hp)
  rw [hR] at IF
  clear hs hl hR hp
  go_enter Tryz.func30, Tryz.ntmps30
  go_wp2_with (go_at_call 57; (with_reducible refine (IF.out).mono ?_); rintro e w1 ⟨r, rfl, hr, hb⟩; have HR := Lib.hid hr; have D := Lib.hid hb; clear hr hb)
  go_ret
  exact ⟨ret_bool HR.out, D.out⟩
theorem end_g {W0 : World} (b : Bool) (A : Option Addr) (n c : Nat) (y : Int) (d : Dy) (t : Int) (w : World) (hv : GV w b A n c y d) (hm : d.m ≠ 0) (hx : -10000 ≤ d.x ∧ d.x ≤ 10000) (ht : t = d.x + ((d.m.natAbs.log2 : Nat) : Int) + 1) :
    Calls Tryz.prog 58 #[.agg #[.bool b, .slice A n c, .int .i64 y]] w (DC.RetB w (.int .i64 t)) := by
  obtain rfl := hv.2.2.1
  have XB := Lib.hid hx
  have LG : Hid (∀ n : Nat, (d.m.natAbs : Int) < 2 ^ n → (n = 0 ∨ (2 : Int) ^ (n - 1) ≤ d.m.natAbs) → d.x + n = t) := fun n a1 a2 => by
    have := log_n a1 a2 (by omega)
    omega
  have D0 := al1 w (.cells #[.bool b, .slice A n c, .int .i64 d.x] 26)
  have hv2 := hv.below D0
  have X := BX.new w b A n c d.x
  obtain ⟨q0, q1, q2⟩ := X
  obtain ⟨W1, hW1⟩ : ∃ W1, w.alloc (.cells #[.bool b, .slice A n c, .int .i64 d.x] 26) = W1 := ⟨_, rfl⟩
  rw [hW1] at D0 hv2 q0 q1 q2
  have BT := Lib.hid (bits_p hv2.pv)
  have D0 := Lib.hid D0
  have HW := Lib.hid hW1
  clear hv hv2 hx ht hW1 hm
  go_enter Tryz.func58, Tryz.ntmps58
  go_wp2_with (go_at_call 59; rw [HW.out]; (with_reducible refine (BT.out).mono ?_); rintro e w3 ⟨n, rfl, hn, hl, -, rfl⟩; obtain ⟨g1, g2⟩ := hl.out rfl; have xb := XB.out; have hp := LG.out n g1 g2; have w1 : wrap64 (d.x + n) = t := (by rw [hp]; unfold wrap64; omega); clear g1 g2 hl xb hp)
  go_ret
  exact ⟨by rw [w1]; rfl, D0.out⟩
end XC
end Go.Proofs.YtelblhgagpkjmaaGreatDoor
