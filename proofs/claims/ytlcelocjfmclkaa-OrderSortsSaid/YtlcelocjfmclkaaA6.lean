/-
  The document's own order: which of two stands above the other one, and a list with one more, in order.
-/
import Derived.Test.YtlcelocjfmclkaaA4
import Derived.Test.YtlcelocjfmclkaaA5
import Derived.Test.YtlcelocjfmclkaaFloatR
namespace Go.Proofs.Ytlcelocjfmclkaa
open Go.RowKit
set_option linter.unusedVariables false
set_option linter.unusedSimpArgs false
namespace AC
theorem Minus_c (x : Int) (w : World) : Calls Try.prog 27 #[.int .u64 x] w fun e w' => e = .returned (.bool (F.sgn x)) ∧ w = w' := by
  go_enter Try.func27, Try.ntmps27
  go_wp2
  go_ret
  exact ⟨rfl, rfl⟩
theorem Above_c (x y : Int) (h0 : 0 ≤ x) (h1 : x ≤ 18446744073709551615) (k0 : 0 ≤ y) (k1 : y ≤ 18446744073709551615) (b : Bool) (hb : decide (A.key y < A.key x) = b) (w : World) :
    Calls Try.prog 11 #[.int .u64 x, .int .u64 y] w fun e w' => e = .returned (.bool b) ∧ w = w' := by
  have mx := fun w => Minus_c x w
  have my := fun w => Minus_c y w
  by_cases sx : x < 9223372036854775808 <;> by_cases sy : y < 9223372036854775808
  · rw [F.sgn_f sx] at mx
    rw [F.sgn_f sy] at my
    have he := Lib.hid (show decide (y < x) = b by rw [← hb]; congr 1; unfold A.key; rw [if_pos sx, if_pos sy]; apply propext; omega)
    have MX := Lib.hid mx
    have MY := Lib.hid my
    clear mx my hb sx sy
    go_enter Try.func11, Try.ntmps11
    go_wp2_with (first | (go_at_call 27; (with_reducible refine (MX.out _).mono ?_); rintro e w' ⟨rfl, rfl⟩) | (go_at_call 27; (with_reducible refine (MY.out _).mono ?_); rintro e w' ⟨rfl, rfl⟩))
    go_ret
    exact ⟨ret_bool he.out, rfl⟩
  · rw [F.sgn_f sx] at mx
    rw [F.sgn_t (show 9223372036854775808 ≤ y by omega)] at my
    obtain rfl : true = b := by rw [← hb]; symm; rw [decide_eq_true_eq]; unfold A.key; rw [if_pos sx, if_neg sy]; omega
    have MX := Lib.hid mx
    have MY := Lib.hid my
    clear mx my hb sx sy
    go_enter Try.func11, Try.ntmps11
    go_wp2_with (first | (go_at_call 27; (with_reducible refine (MX.out _).mono ?_); rintro e w' ⟨rfl, rfl⟩) | (go_at_call 27; (with_reducible refine (MY.out _).mono ?_); rintro e w' ⟨rfl, rfl⟩))
    go_ret
    exact ⟨rfl, rfl⟩
  · rw [F.sgn_t (show 9223372036854775808 ≤ x by omega)] at mx
    rw [F.sgn_f sy] at my
    obtain rfl : false = b := by rw [← hb]; symm; rw [decide_eq_false_iff_not]; unfold A.key; rw [if_neg sx, if_pos sy]; omega
    have MX := Lib.hid mx
    have MY := Lib.hid my
    clear mx my hb sx sy
    go_enter Try.func11, Try.ntmps11
    go_wp2_with (first | (go_at_call 27; (with_reducible refine (MX.out _).mono ?_); rintro e w' ⟨rfl, rfl⟩) | (go_at_call 27; (with_reducible refine (MY.out _).mono ?_); rintro e w' ⟨rfl, rfl⟩))
    go_ret
    exact ⟨rfl, rfl⟩
  · rw [F.sgn_t (show 9223372036854775808 ≤ x by omega)] at mx
    rw [F.sgn_t (show 9223372036854775808 ≤ y by omega)] at my
    have he := Lib.hid (show decide (x < y) = b by rw [← hb]; congr 1; unfold A.key; rw [if_neg sx, if_neg sy]; apply propext; omega)
    have MX := Lib.hid mx
    have MY := Lib.hid my
    clear mx my hb sx sy
    go_enter Try.func11, Try.ntmps11
    go_wp2_with (first | (go_at_call 27; (with_reducible refine (MX.out _).mono ?_); rintro e w' ⟨rfl, rfl⟩) | (go_at_call 27; (with_reducible refine (MY.out _).mono ?_); rintro e w' ⟨rfl, rfl⟩))
    go_ret
    exact ⟨ret_bool he.out, rfl⟩
theorem IsNan_c (x : Int) (h0 : 0 ≤ x) (h1 : x ≤ 18446744073709551615) (w : World) : Calls Try.prog 16 #[.int .u64 x] w fun e w' => e = .returned (.bool (A.nan x)) ∧ w = w' := by
  go_enter Try.func16, Try.ntmps16
  go_wp2_with (first | (go_at_call 31; (with_reducible refine (FloatR.ClassOf_c _ h0 h1 _).mono ?_); rintro e w' ⟨rfl, rfl⟩))
  go_ret
  exact ⟨rfl, rfl⟩
theorem Quiet_c (w : World) : Calls Try.prog 17 #[] w fun e w' => e = .returned (.int .u64 9221120237041090560) ∧ w = w' := by
  go_enter Try.func17, Try.ntmps17
  go_wp2
  go_ret
  exact ⟨rfl, rfl⟩
/-- a list in new memory -/
def RetO (w : World) (l : List Int) (e : Ending) (w' : World) : Prop := ∃ A c, e = .returned (.slice A l.length c) ∧ OwnQ w' w.heap.size (.slice A l.length c) l ∧ Below w.heap.size w w'
theorem run_len (x : Int) : ∀ (L : List Int) (s : List Int × Bool), (L.foldl (A.stp x) s).1.length ≤ s.1.length + L.length + (if s.2 then 0 else 1) ∧ ((L.foldl (A.stp x) s).2 = false → (L.foldl (A.stp x) s).1.length ≤ s.1.length + L.length)
  | [], s => by simp
  | y :: L, s => by
    have h := run_len x L (A.stp x s y)
    rw [List.foldl_cons]
    unfold A.stp at h ⊢
    split at h
    · rename_i hc
      rw [if_pos hc, hc.1]
      simp only [List.length_append, List.length_cons, List.length_nil, if_true, Bool.false_eq_true, if_false] at h ⊢
      refine ⟨by omega, fun h2 => ?_⟩
      exfalso
      have key : ∀ (L : List Int) (o : List Int), (L.foldl (A.stp x) (o, true)).2 = true := fun L => by
        induction L with
        | nil => intro o; rfl
        | cons z L ih => intro o; rw [List.foldl_cons]; unfold A.stp; rw [if_neg (fun h => by cases h.1)]; exact ih _
      have := key L (s.1 ++ [x] ++ [y])
      unfold A.stp at this
      rw [this] at h2
      cases h2
    · rename_i hc
      rw [if_neg hc]
      simp only [List.length_append, List.length_cons, List.length_nil] at h ⊢
      exact ⟨by omega, fun h2 => by have := h.2 h2; omega⟩
theorem run_le (x : Int) (L : List Int) (k : Nat) (hk : k ≤ L.length) (O : List Int) (b : Bool) (h : A.run x (L.take k) = (O, b)) : O.length ≤ k + 1 ∧ (b = false → O.length ≤ k) := by
  have := run_len x (L.take k) ([], false)
  unfold A.run at h
  rw [h] at this
  simp only [List.length_nil, List.length_take, Nat.min_eq_left hk, Bool.false_eq_true, if_false] at this
  exact ⟨by omega, fun h => by have := this.2 h; omega⟩
set_option maxHeartbeats 2000000 in
theorem Inserted_c (A0 : Option Addr) (n c : Nat) (L : List Int) (x : Int) (w : World) (hs : Sl .u64 w (.slice A0 n c) L) (hu : u64s L) (hx : 0 ≤ x ∧ x ≤ 18446744073709551615) (hl : (L.length + 1) * 8 ≤ 140737488355328) :
    Calls Try.prog 12 #[.slice A0 n c, .int .u64 x] w (RetO w (A.ins L x)) := by
  have hn := hs.len_.1
  have CL : Hid (∀ W : World, Below w.heap.size w W → ∀ j, j < n → ∃ ad, A0 = some ad ∧ W.cell? (ad.add j) = some (.int .u64 (L.getD j 0))) := fun W hW j hj => by
    obtain ⟨A', c', e, _, h⟩ := (hs.below hW).open_
    injection e with e1 e2 e3
    subst e1
    obtain ⟨ad, h1, _, h2⟩ := h j (by omega)
    exact ⟨ad, h1, h2⟩
  have HU := Lib.hid hu
  have HN := Lib.hid hn
  have hn63 : (n : Int) ≤ 9223372036854775807 := by omega
  rw [← hn] at hl
  have D0 := Lib.hid (Below.refl w.heap.size w)
  obtain ⟨x0, x1⟩ := hx
  clear hs hu hn
  go_enter Try.func12, Try.ntmps12
  go_wp2
  go_loopw [5, 6, 11] (fun ov dv iv wr => ∃ (k : Nat) (A1 : Option Addr) (n1 c1 : Nat) (O : List Int) (b : Bool), iv = .int .i64 k ∧ k ≤ n ∧ dv = .bool b ∧ ov = .slice A1 n1 c1 ∧ Hid (A.run x (L.take k) = (O, b)) ∧ Hid (OwnQ wr w.heap.size (.slice A1 n1 c1) O) ∧ Hid (Below w.heap.size w wr)) (fun _ _ iv _ => n - (intOf iv).toNat)
  case atStart => exact ⟨0, none, 0, 0, [], false, rfl, by omega, rfl, rfl, rfl, Own.nil _ _ _ _, D0.out⟩
  case round =>
    obtain ⟨k, A1, n1, c1, O, b, rfl, hk, rfl, rfl, hR, hO, hD⟩ := hrel
    have hle := run_le x L k (by rw [← HN.out]; exact hk) O b hR.out
    by_cases hkn : k < n
    · obtain ⟨ad, rfl, hcell⟩ := CL.out wr hD.out k hkn
      obtain ⟨y, hy⟩ : ∃ y, L.getD k 0 = y := ⟨_, rfl⟩
      rw [hy] at hcell
      have hyb : 0 ≤ y ∧ y ≤ 18446744073709551615 := by
        rw [← hy, List.getD_eq_getElem?_getD, List.getElem?_eq_getElem (by rw [← HN.out]; exact hkn)]
        exact HU.out _ (List.getElem_mem _)
      obtain ⟨y0, y1⟩ := hyb
      have hst := A.run_snoc x L k (by rw [← HN.out]; exact hkn) y hy
      rw [hR.out] at hst
      have i1 : (k : Int) < (n : Int) := by omega
      have HLE := Lib.hid hle
      have HST := Lib.hid hst
      clear hle hst hy
      cases b
      · by_cases ha : A.key x < A.key y
        · have AB := Lib.hid (fun w => Above_c y x y0 y1 x0 x1 true (by simpa using ha) w)
          have e : A.stp x (O, false) y = (O ++ [x] ++ [y], true) := by unfold A.stp; rw [if_pos ⟨rfl, ha⟩]
          have HE := Lib.hid e
          clear ha e
          go_wp2_with (first
            | (go_at_call 11; (with_reducible refine (AB.out _).mono ?_); rintro e w' ⟨rfl, rfl⟩)
            | (at_builtin; refine appq el_u64 rfl (.tmp 22) (.tmp 24) rfl rfl hO.out x rfl (by have := HLE.out.2 (by first | trivial | rfl); omega) hD.out.size ?_; intro A2 n2 c2 w2 hn2 hO2 hg2 hat2; have Q2 := Lib.hid hO2; have D2 := Lib.hid (hD.out.grown hg2 hD.out.size (fun k hk => (Own.lt hO.out k hk).1)); clear hO2 hg2 hat2)
            | (at_builtin; refine appq el_u64 rfl (.tmp 26) (.tmp 28) rfl rfl Q2.out y rfl (by have := HLE.out.2 (by first | trivial | rfl); simp only [List.length_append, List.length_cons, List.length_nil]; omega) D2.out.size ?_; intro A3 n3 c3 w3 hn3 hO3 hg3 hat3; have Q3 := Lib.hid hO3; have D3 := Lib.hid (D2.out.grown hg3 D2.out.size (fun k hk => (Own.lt Q2.out k hk).1)); clear hO3 hg3 hat3))
          exact ⟨⟨k + 1, _, _, _, _, _, by simp, by omega, rfl, rfl, HST.out.trans HE.out, Q3.out, D3.out⟩, by simp only [intOf]; omega⟩
        · have AB := Lib.hid (fun w => Above_c y x y0 y1 x0 x1 false (by simpa using ha) w)
          have e : A.stp x (O, false) y = (O ++ [y], false) := by unfold A.stp; rw [if_neg (fun h => ha h.2)]
          have HE := Lib.hid e
          clear ha e
          go_wp2_with (first
            | (go_at_call 11; (with_reducible refine (AB.out _).mono ?_); rintro e w' ⟨rfl, rfl⟩)
            | (at_builtin; refine appq el_u64 rfl (.tmp 26) (.tmp 28) rfl rfl hO.out y rfl (by have := HLE.out.2 (by first | trivial | rfl); omega) hD.out.size ?_; intro A2 n2 c2 w2 hn2 hO2 hg2 hat2; have Q2 := Lib.hid hO2; have D2 := Lib.hid (hD.out.grown hg2 hD.out.size (fun k hk => (Own.lt hO.out k hk).1)); clear hO2 hg2 hat2))
          exact ⟨⟨k + 1, _, _, _, _, _, by simp, by omega, rfl, rfl, HST.out.trans HE.out, Q2.out, D2.out⟩, by simp only [intOf]; omega⟩
      · have e : A.stp x (O, true) y = (O ++ [y], true) := by unfold A.stp; rw [if_neg (fun h => by cases h.1)]
        have HE := Lib.hid e
        clear e
        go_wp2_with (first
          | (at_builtin; refine appq el_u64 rfl (.tmp 26) (.tmp 28) rfl rfl hO.out y rfl (by have := HLE.out.1; omega) hD.out.size ?_; intro A2 n2 c2 w2 hn2 hO2 hg2 hat2; have Q2 := Lib.hid hO2; have D2 := Lib.hid (hD.out.grown hg2 hD.out.size (fun k hk => (Own.lt hO.out k hk).1)); clear hO2 hg2 hat2))
        exact ⟨⟨k + 1, _, _, _, _, _, by simp, by omega, rfl, rfl, HST.out.trans HE.out, Q2.out, D2.out⟩, by simp only [intOf]; omega⟩
    · obtain rfl : n = k := by omega
      have hR2 := hR.out
      rw [HN.out, List.take_length] at hR2
      have HLE := Lib.hid hle
      clear hle
      cases b
      · have e : A.ins L x = O ++ [x] := by unfold A.ins; rw [hR2]; rfl
        have HE := Lib.hid e
        clear hR2 e
        go_wp2_with (first
            | (at_builtin; refine appq el_u64 rfl (.tmp 33) (.tmp 35) rfl rfl hO.out x rfl (by have := HLE.out.2 (by first | trivial | rfl); omega) hD.out.size ?_; intro A2 n2 c2 w2 hn2 hO2 hg2 hat2; have Q2 := Lib.hid hO2; have D2 := Lib.hid (hD.out.grown hg2 hD.out.size (fun k hk => (Own.lt hO.out k hk).1)); clear hO2 hg2 hat2))
        go_ret
        rw [HE.out]
        have := (Own.sl Q2.out).len_.1
        subst this
        exact ⟨_, _, rfl, Q2.out, D2.out⟩
      · have e : A.ins L x = O := by unfold A.ins; rw [hR2]; rfl
        have HE := Lib.hid e
        clear hR2 e
        go_wp2
        go_ret
        rw [HE.out]
        have := (Own.sl hO.out).len_.1
        subst this
        exact ⟨_, _, rfl, hO.out, hD.out⟩
end AC
end Go.Proofs.Ytlcelocjfmclkaa
