/-
  Texts glued together for a claim: U4 U5 U6 U7 P5 P6 P7 U8 U9 DK1 DK3 RK1.
-/
import Derived.Test.YtjplemfdhhkbaaaDoorW5
/-
  Package sum: checkMode, isZero, withoutValue, allSame, zero.
-/
namespace Go.Proofs.YtjplemfdhhkbaaaDoor
set_option linter.unusedVariables false
set_option linter.unusedSimpArgs false
open Go.RowKit
set_option linter.unusedVariables false
set_option linter.unusedSimpArgs false
namespace SC
open L NC NK DC RC
theorem checkMode_c (mode : Int) (w : World) (hT : TabD w) : Calls Tryd.prog 115 #[.int .i64 mode] w (DC.RetB w (.int .i64 (if 0 ≤ mode ∧ mode ≤ 4 then 0 else 1))) := by
  have TO := Lib.hid (To_d (.agg #[.bool false, .slice none 0 0, .int .i64 0]) dz mode w (GV.zero w).dv hT)
  have e : TE dz mode = if 0 ≤ mode ∧ mode ≤ 4 then 0 else 1 := by unfold TE; rw [if_neg (by simp [dz])]
  rw [e] at TO
  clear e hT
  generalize (if 0 ≤ mode ∧ mode ≤ 4 then 0 else 1 : Int) = E at *
  generalize TX dz mode = x at *
  generalize TL dz mode = l at *
  go_enter Tryd.func115, Tryd.ntmps115
  go_wp2_with (go_at_call 91; (with_reducible refine (TO.out).mono ?_); rintro e w1 ⟨rfl, hb⟩)
  go_ret
  exact ⟨rfl, hb⟩
theorem isZero_c (b : Bool) (A : Option Addr) (n c : Nat) (x : Int) (w : World) : Calls Tryd.prog 118 #[.agg #[.bool b, .slice A n c, .int .i64 x]] w (DC.RetB w (.bool (decide (n = 0)))) := by
  go_enter Tryd.func118, Tryd.ntmps118
  go_wp2
  go_ret
  exact ⟨ret_bool (by by_cases h : n = 0 <;> simp [h]), (Below.refl _ _).alloc (Nat.le_refl _) _⟩
theorem wv_drop {L : List Int} {k : Nat} {s : Int} {f : Bool} {x : Int} (hk : k < L.length) (hx : L.getD k 0 = x) : wv (L.drop k) s f = if F.cls x = 5 then (9221120237041090560, true) else if F.cls x = 4 then (if f = true ∧ x ≠ s then (9221120237041090560, true) else wv (L.drop (k + 1)) x true) else wv (L.drop (k + 1)) s f := by
  rw [List.drop_eq_getElem_cons hk]
  have e : L[k] = x := by rw [← hx, List.getD_eq_getElem?_getD, List.getElem?_eq_getElem hk]; rfl
  rw [e]; rfl
theorem u64s_at {L : List Int} (h : u64s L) (k : Nat) : 0 ≤ L.getD k 0 ∧ L.getD k 0 ≤ 18446744073709551615 := by
  by_cases hk : k < L.length
  · rw [List.getD_eq_getElem?_getD, List.getElem?_eq_getElem hk]; exact h _ (List.getElem_mem hk)
  · rw [List.getD_eq_getElem?_getD, List.getElem?_eq_none (by omega)]; simp
theorem withoutValue_c (A : Option Addr) (n c : Nat) (L : List Int) (w : World) (hs : Sl .u64 w (.slice A n c) L) (hu : u64s L) (hl : L.length ≤ 200) :
    Calls Tryd.prog 116 #[.slice A n c] w fun e w' => e = .returned (.tuple #[.int .u64 (wv L 0 false).1, .bool (wv L 0 false).2]) ∧ w = w' := by
  have HS := Lib.hid hs
  obtain ⟨A', c', e, hc, hcell⟩ := hs.open_
  injection e with e1 e2 e3
  subst e1
  subst e3
  rw [← e2] at hl hc
  have HN := Lib.hid e2
  have HU := Lib.hid hu
  obtain ⟨R, hR⟩ : ∃ R, wv L 0 false = R := ⟨_, rfl⟩
  rw [hR]
  have HR := Lib.hid hR
  clear e2 hcell hs hu hR
  go_enter Tryd.func116, Tryd.ntmps116
  go_wp2
  go_loop [10, 4, 5] (fun iv sv fv => ∃ (k : Nat) (s : Int) (f : Bool), iv = .int .i64 k ∧ k ≤ n ∧ sv = .int .u64 s ∧ fv = .bool f ∧ Hid (wv (L.drop k) s f = R)) (fun iv _ _ => n - (intOf iv).toNat)
  case atStart => exact ⟨0, 0, false, rfl, by omega, rfl, rfl, HR.out⟩
  case round =>
    obtain ⟨k, s, f, rfl, hk, rfl, rfl, hr⟩ := hrel
    by_cases hkn : k < n
    · obtain ⟨ad, c', e, hc', hb, hcell⟩ := HS.out.at_ k (by rw [← HN.out]; exact hkn)
      injection e with e1 e2 e3
      subst e1
      clear e2 e3 hc' c' hb
      obtain ⟨x, hx⟩ : ∃ x, L.getD k 0 = x := ⟨_, rfl⟩
      have hb := u64s_at HU.out k
      have hd := wv_drop (s := s) (f := f) (by rw [← HN.out]; exact hkn) hx
      rw [hr.out] at hd
      rw [hx] at hcell hb
      have CL : Hid (∀ W : World, Calls Tryd.prog 48 #[.int .u64 x] W fun e w' => e = .returned (.int .i64 (F.cls x)) ∧ W = w') := fun W => FloatC.Class_c x hb.1 hb.2 W
      clear hx hb
      by_cases h5 : F.cls x = 5
      · rw [if_pos h5] at hd
        have t5 : (F.cls x == 5) = true := by rw [h5]; rfl
        subst hd
        generalize F.cls x = K at *
        clear h5
        go_wp2_with (first | (go_at_call 48; (with_reducible refine (CL.out _).mono ?_); rintro e w1 ⟨rfl, rfl⟩))
        go_ret2
        exact ⟨rfl, rfl⟩
      · rw [if_neg h5] at hd
        have t5 : (F.cls x == 5) = false := by rw [beq_eq_false_iff_ne]; exact h5
        by_cases h4 : F.cls x = 4
        · rw [if_pos h4] at hd
          have t4 : (F.cls x == 4) = true := by rw [h4]; rfl
          by_cases hf : f = true ∧ x ≠ s
          · rw [if_pos hf] at hd
            obtain ⟨rfl, hxs⟩ := hf
            have tx : (x != s) = true := by simp [hxs]
            subst hd
            generalize F.cls x = K at *
            clear h5 h4 hxs
            go_wp2_with (first | (go_at_call 48; (with_reducible refine (CL.out _).mono ?_); rintro e w1 ⟨rfl, rfl⟩))
            go_ret2
            exact ⟨rfl, rfl⟩
          · rw [if_neg hf] at hd
            have HD := Lib.hid hd.symm
            have tf : f = false ∨ (f = true ∧ (x != s) = false) := by
              cases f
              · exact .inl rfl
              · right; refine ⟨rfl, ?_⟩
                rcases Classical.em (x = s) with h | h
                · simp [h]
                · exact absurd ⟨rfl, h⟩ hf
            generalize F.cls x = K at *
            clear h5 h4 hf hd
            rcases tf with rfl | ⟨rfl, tx⟩
            all_goals (
              go_wp2_with (first | (go_at_call 48; (with_reducible refine (CL.out _).mono ?_); rintro e w1 ⟨rfl, rfl⟩))
              go_round
              case rel => exact ⟨k + 1, x, true, by go_num, by omega, rfl, rfl, HD.out⟩
              case measure => simp [intOf]; omega)
        · rw [if_neg h4] at hd
          have t4 : (F.cls x == 4) = false := by rw [beq_eq_false_iff_ne]; exact h4
          have HD := Lib.hid hd.symm
          generalize F.cls x = K at *
          clear h5 h4 hd
          go_wp2_with (first | (go_at_call 48; (with_reducible refine (CL.out _).mono ?_); rintro e w1 ⟨rfl, rfl⟩))
          go_round
          case rel => exact ⟨k + 1, s, f, by go_num, by omega, rfl, rfl, HD.out⟩
          case measure => simp [intOf]; omega
    · have hkn2 : k = n := by omega
      subst hkn2
      have he : wv (L.drop k) s f = (s, f) := by rw [HN.out, List.drop_length]; rfl
      rw [hr.out] at he
      subst he
      go_wp2
      go_ret2
      exact ⟨rfl, rfl⟩
theorem clo_c (x y : Int) (ad : Addr) (n c B : Nat) (w : World) (hB : w.cell? ⟨B, 0, none⟩ = some (.slice (some ad) n c)) (h0 : 0 < n) (hy : w.cell? (ad.add 0) = some (.int .u64 y)) :
    Calls Tryd.prog 138 #[.int .u64 x, .pointer (some ⟨B, 0, none⟩)] w fun e w' => e = .returned (.bool (x != y)) ∧ w = w' := by
  have hy2 : w.cell? ad = some (.int .u64 y) := by simpa [Addr.add] using hy
  go_enter Tryd.func138, Tryd.ntmps138
  go_wp2
  go_ret
  exact ⟨rfl, rfl⟩
/-- the first place where the closure says yes -/
theorem IndexFunc_c (A : Option Addr) (n c : Nat) (L : List Int) (B : Nat) (w : World) (hs : Sl .u64 w (.slice A n c) L) (hB : w.cell? ⟨B, 0, none⟩ = some (.slice A n c)) (hl : L.length ≤ 200) (h0 : 0 < n) :
    Calls Tryd.prog 141 #[.slice A n c, .func (.func 138) #[] #[.pointer (some ⟨B, 0, none⟩)]] w fun e w' => ∃ r : Int, e = .returned (.int .i64 r) ∧ decide (r ≥ 0) = !sm L ∧ w = w' := by
  have HS := Lib.hid hs
  obtain ⟨A', c', e, hc, hcell⟩ := hs.open_
  injection e with e1 e2 e3
  subst e1
  subst e3
  rw [← e2] at hl hc
  have HN := Lib.hid e2
  obtain ⟨ad, rfl, hbl, hc0⟩ := hcell 0 (by rw [← e2]; exact h0)
  obtain ⟨y, hy⟩ : ∃ y, L.getD 0 0 = y := ⟨_, rfl⟩
  rw [hy] at hc0
  have eS : sm L = L.all fun x => x == y := by
    unfold sm
    have : L.headD 0 = y := by rw [← hy]; cases L <;> rfl
    rw [this]
  obtain ⟨R, hR⟩ : ∃ R, sm L = R := ⟨_, rfl⟩
  rw [hR] at eS ⊢
  have HR := Lib.hid eS
  have CC : Hid (∀ x : Int, Calls Tryd.prog 138 #[.int .u64 x, .pointer (some ⟨B, 0, none⟩)] w fun e w' => e = .returned (.bool (x != y)) ∧ w = w') := fun x => clo_c x y ad n c B w hB h0 hc0
  clear e2 hcell hs hR hy eS hB hc0
  go_enter Tryd.func141, Tryd.ntmps141
  go_wp2
  go_loop [8] (fun iv => ∃ k : Nat, iv = .int .i64 k ∧ k ≤ n ∧ Hid (∀ x ∈ L.take k, x = y)) (fun iv => n - (intOf iv).toNat)
  case atStart => exact ⟨0, rfl, by omega, by intro x hx; simp at hx⟩
  case round =>
    obtain ⟨k, rfl, hk, hr⟩ := hrel
    by_cases hkn : k < n
    · obtain ⟨ad2, c', e, hc', hb, hcell⟩ := HS.out.at_ k (by rw [← HN.out]; exact hkn)
      injection e with e1 e2 e3
      obtain rfl := Option.some.inj e1
      clear e2 e3 hc' c' hb e1
      obtain ⟨x, hx⟩ : ∃ x, L.getD k 0 = x := ⟨_, rfl⟩
      have hx2 : L[k]? = some x := by
        rw [List.getD_eq_getElem?_getD] at hx
        rw [List.getElem?_eq_getElem (by rw [← HN.out]; exact hkn)] at hx ⊢
        rw [← hx]; rfl
      have HX2 := Lib.hid hx2
      rw [hx] at hcell
      clear hx hx2
      by_cases he : x = y
      · have tx : (x != y) = false := by simp [he]
        have HE := Lib.hid he
        clear he
        go_wp2_with (go_at_call 138; (with_reducible refine (CC.out _).mono ?_); rintro e w1 ⟨rfl, rfl⟩)
        go_round
        case rel => exact ⟨k + 1, by go_num, by omega, by
          intro z hz
          rw [List.take_add_one, HX2.out] at hz
          simp at hz
          rcases hz with hz | rfl
          · exact hr.out z hz
          · exact HE.out⟩
        case measure => simp [intOf]; omega
      · have tx : (x != y) = true := by simp [he]
        have HE := Lib.hid he
        clear he
        go_wp2_with (go_at_call 138; (with_reducible refine (CC.out _).mono ?_); rintro e w1 ⟨rfl, rfl⟩)
        go_ret
        refine ⟨_, rfl, ?_, rfl⟩
        have hR : R = false := by
          rw [HR.out, List.all_eq_false]
          refine ⟨x, List.mem_of_getElem? HX2.out, ?_⟩
          simpa using HE.out
        rw [hR]
        simp
    · have hkn2 : k = n := by omega
      subst hkn2
      have hR : R = true := by
        rw [HR.out, List.all_eq_true]
        intro x hx
        have := hr.out x (by rw [HN.out, List.take_length]; exact hx)
        simp [this]
      go_wp2
      go_ret
      exact ⟨_, rfl, by first | decide | (rw [hR]; decide), rfl⟩
theorem ContainsFunc_c (A : Option Addr) (n c : Nat) (L : List Int) (B : Nat) (w : World) (hs : Sl .u64 w (.slice A n c) L) (hB : w.cell? ⟨B, 0, none⟩ = some (.slice A n c)) (hl : L.length ≤ 200) (h0 : 0 < n) :
    Calls Tryd.prog 137 #[.slice A n c, .func (.func 138) #[] #[.pointer (some ⟨B, 0, none⟩)]] w fun e w' => e = .returned (.bool (!sm L)) ∧ w = w' := by
  have IF := Lib.hid (IndexFunc_c A n c L B w hs hB hl h0)
  obtain ⟨R, hR⟩ : ∃ R, sm L = R := ⟨_, rfl⟩
  rw [hR] at IF ⊢
  clear hs hB hl h0 hR
  go_enter Tryd.func137, Tryd.ntmps137
  go_wp2_with (go_at_call 141; (with_reducible refine (IF.out).mono ?_); rintro e w1 ⟨r, rfl, hr, rfl⟩; have HR := Lib.hid hr; clear hr)
  go_ret
  exact ⟨ret_bool HR.out, rfl⟩
theorem allSame_c (A : Option Addr) (n c : Nat) (L : List Int) (w : World) (hs : Sl .u64 w (.slice A n c) L) (hl : L.length ≤ 200) (h0 : 0 < n) :
    Calls Tryd.prog 131 #[.slice A n c] w (DC.RetB w (.bool (sm L))) := by
  have hs2 := hs.alloc (.cells #[.slice A n c] 65)
  have D0 := al1 w (.cells #[.slice A n c] 65)
  have hB := (Blk.new w 65 #[.slice A n c]).at_ 0 rfl
  obtain ⟨W0, hW0⟩ : ∃ W0, w.alloc (.cells #[.slice A n c] 65) = W0 := ⟨_, rfl⟩
  rw [hW0] at hs2 D0 hB
  have CF := Lib.hid (ContainsFunc_c A n c L w.heap.size W0 hs2 hB hl h0)
  have HW0 := Lib.hid hW0
  have D0 := Lib.hid D0
  obtain ⟨R, hR⟩ : ∃ R, sm L = R := ⟨_, rfl⟩
  rw [hR] at CF ⊢
  clear hs hs2 hW0 hR hl
  go_enter Tryd.func131, Tryd.ntmps131
  go_wp2_with (go_at_call 137; rw [HW0.out]; (with_reducible refine (CF.out).mono ?_); rintro e w1 ⟨rfl, rfl⟩)
  go_ret
  exact ⟨ret_bool (by simp), D0.out⟩
theorem zero_c (A : Option Addr) (n c : Nat) (L : List Int) (mode : Int) (w : World) (hs : Sl .u64 w (.slice A n c) L) (hl : L.length ≤ 200) :
    Calls Tryd.prog 119 #[.slice A n c, .int .i64 mode] w (DC.RetB w (.int .u64 (ZR L mode))) := by
  obtain ⟨A', c', e, hc, hcell⟩ := hs.open_
  injection e with e1 e2 e3
  subst e1
  subst e3
  unfold ZR
  by_cases h0 : L = []
  · rw [if_pos h0]
    have hn : n = 0 := by rw [e2, h0]; rfl
    clear hcell hs e2 hc
    subst hn
    go_enter Tryd.func119, Tryd.ntmps119
    go_wp2
    go_ret
    exact ⟨rfl, Below.refl _ _⟩
  · rw [if_neg h0]
    have hn : 0 < n := by rw [e2]; exact List.length_pos_iff.2 h0
    have AS := Lib.hid (allSame_c A n c L w hs hl hn)
    obtain ⟨ad, rfl, hbl, hc0⟩ := hcell 0 (by rw [← e2]; exact hn)
    have hy : L.getD 0 0 = L.headD 0 := by cases L <;> rfl
    rw [hy] at hc0
    obtain ⟨y, hy⟩ : ∃ y, L.headD 0 = y := ⟨_, rfl⟩
    rw [hy] at hc0 ⊢
    rw [← e2] at hl
    obtain ⟨R, hR⟩ : ∃ R, sm L = R := ⟨_, rfl⟩
    rw [hR] at AS ⊢
    have hn0 : (n : Int) ≠ 0 := by omega
    have K0 : Hid (∀ W, Below w.heap.size w W → W.cell? ad = some (.int .u64 y)) := fun W hW => by
      have h9 : w.cell? ad = some (.int .u64 y) := by simpa [Addr.add] using hc0
      exact (hW.cell hbl).trans h9
    clear hcell hs hy hR h0 hc0 e2
    cases R
    · rw [if_neg (by simp)]
      by_cases hm : mode = 2
      · subst hm
        rw [if_pos rfl]
        go_enter Tryd.func119, Tryd.ntmps119
        go_wp2_with (go_at_call 131; (with_reducible refine (AS.out).mono ?_); rintro e w1 ⟨rfl, hb⟩; have hb := Lib.hid hb)
        go_ret
        exact ⟨rfl, hb.out⟩
      · rw [if_neg hm]
        have tm : (mode == 2) = false := by simp [hm]
        clear hm
        go_enter Tryd.func119, Tryd.ntmps119
        go_wp2_with (go_at_call 131; (with_reducible refine (AS.out).mono ?_); rintro e w1 ⟨rfl, hb⟩; have hb := Lib.hid hb)
        go_ret
        exact ⟨rfl, hb.out⟩
    · rw [if_pos rfl]
      go_enter Tryd.func119, Tryd.ntmps119
      go_wp2_with (go_at_call 131; (with_reducible refine (AS.out).mono ?_); rintro e w1 ⟨rfl, hb⟩; have k0 := K0.out _ hb; have hb := Lib.hid hb)
      go_ret
      exact ⟨rfl, hb.out⟩
end SC
end Go.Proofs.YtjplemfdhhkbaaaDoor

/-
  Package sum: exact.
-/
namespace Go.Proofs.YtjplemfdhhkbaaaDoor
set_option linter.unusedVariables false
set_option linter.unusedSimpArgs false
open Go.RowKit
set_option linter.unusedVariables false
set_option linter.unusedSimpArgs false
namespace SC
open L NC NK DC RC
theorem tot_append (a b : List Int) (d : Dy) : tot (a ++ b) d = tot b (tot a d) := by
  induction a generalizing d with
  | nil => rfl
  | cons x t ih => simp only [List.cons_append, tot]; exact ih _
theorem tot_succ {L : List Int} {k : Nat} {x : Int} (hx : L[k]? = some x) (d : Dy) : tot (L.take (k + 1)) d = (DC.Add (tot (L.take k) d) (OfD x).d).d := by
  rw [List.take_add_one, hx, tot_append]; rfl
/-- a Dyad told by value -/
def RetG (w : World) (d : Dy) (e : Ending) (w' : World) : Prop := ∃ b A n c x, e = .returned (.agg #[.bool b, .slice A n c, .int .i64 x]) ∧ GV w' b A n c x d ∧ Below w.heap.size w w'
/-- behind both allocations -/
theorem two0 (w : World) : ∃ W0, (w.alloc (.cells #[.bool false, .slice none 0 0, .int .i64 0] 25)).alloc (.cells #[.bool false, .slice none 0 0, .int .i64 0] 25) = W0 ∧ Below w.heap.size w W0 ∧ W0.heap.size = w.heap.size + 2 ∧
    Blk W0 w.heap.size 25 #[.bool false, .slice none 0 0, .int .i64 0] ∧ Blk W0 (w.heap.size + 1) 25 #[.bool false, .slice none 0 0, .int .i64 0] := by
  refine ⟨_, rfl, (al1 w _).trans ((al1 _ _).mono (by simp)), by simp, (Blk.new w _ _).alloc _, ?_⟩
  have := Blk.new (w.alloc (.cells #[.bool false, .slice none 0 0, .int .i64 0] 25)) 25 #[.bool false, .slice none 0 0, .int .i64 0]
  rwa [show (w.alloc (.cells #[.bool false, .slice none 0 0, .int .i64 0] 25)).heap.size = w.heap.size + 1 by simp] at this
/-- what the loop of exact keeps: the result's cell, the total, its value -/
structure EX (w W : World) (b : Bool) (A : Option Addr) (n c : Nat) (x : Int) (d : Dy) : Prop where
  r : Blk W w.heap.size 25 #[.bool false, .slice none 0 0, .int .i64 0]
  t : Blk W (w.heap.size + 1) 25 #[.bool b, .slice A n c, .int .i64 x]
  g : GV W b A n c x d
  b : Below w.heap.size w W
theorem EX.size {w W : World} {b A n c x d} (h : EX w W b A n c x d) : w.heap.size + 1 < W.heap.size := h.t.lt
theorem EX.below {w W W' : World} {b A n c x d} (h : EX w W b A n c x d) (hb : Below W.heap.size W W') : EX w W' b A n c x d :=
  ⟨h.r.below hb (by have := h.size; omega), h.t.below hb h.size, h.g.below hb, h.b.trans (hb.mono h.b.size)⟩
theorem EX.set {w W : World} {b A n c x d b' A' n' c' x' d'} (h : EX w W b A n c x d) (g : GV W b' A' n' c' x' d') :
    EX w (((W.setCell ⟨w.heap.size + 1, 0, none⟩ (.bool b')).setCell ⟨w.heap.size + 1, 1, none⟩ (.slice A' n' c')).setCell ⟨w.heap.size + 1, 2, none⟩ (.int .i64 x')) b' A' n' c' x' d' := by
  refine ⟨?_, Blk3 h.t _ _ _, g.set3 h.t _ _ _ (by intro z h; cases h) (by intro z h; cases h), below3 h.b (by omega) _ _ _⟩
  exact ((h.r.far (by simp) _).far (by simp) _).far (by simp) _
set_option maxRecDepth 100000 in
theorem exact_c (A : Option Addr) (n c : Nat) (L : List Int) (w : World) (hs : Sl .u64 w (.slice A n c) L) (hf : ∀ x ∈ L, fi x) (hl : L.length ≤ 200) (hT : TabD w) :
    Calls Tryd.prog 117 #[.slice A n c] w (RetG w (tot L dz)) := by
  have HS : Hid (∀ W, Below w.heap.size w W → Sl .u64 W (.slice A n c) L) := fun W hW => hs.below hW
  obtain ⟨A', c', e, hc, hcell⟩ := hs.open_
  injection e with e1 e2 e3
  subst e1
  subst e3
  rw [← e2] at hl hc
  have HN := Lib.hid e2
  have HF := Lib.hid hf
  have OF : Hid (∀ (W : World) (x : Int), fi x → Below w.heap.size w W → Calls Tryd.prog 13 #[.int .u64 x] W (RetD W (OfD x))) := fun W x hx hW => Of_d x hx.1 hx.2.1 W (hT.below hW)
  have AD : Hid (∀ (W : World) (u v : Value) (d1 d2 : Dy), DV W u d1 → DV W v d2 → Below w.heap.size w W → Calls Tryd.prog 29 #[u, v] W (RetD W (DC.Add d1 d2))) := fun W u v d1 d2 h1 h2 hW => Add_d u v d1 d2 W h1 h2 (hT.below hW)
  obtain ⟨W0, hW0, D0, SZ, R0, T0⟩ := two0 w
  have E0 : Hid (EX w W0 false none 0 0 0 dz) := ⟨R0, T0, GV.zero _, D0⟩
  have HW0 := Lib.hid hW0
  clear e2 hcell hs hf hT hW0 D0 SZ R0 T0
  go_enter Tryd.func117, Tryd.ntmps117
  go_wp2
  rw [HW0.out]
  go_loopw [10] (fun iv wr => ∃ (k : Nat) (b : Bool) (A' : Option Addr) (n' c' : Nat) (x' : Int), iv = .int .i64 k ∧ k ≤ n ∧ Hid (EX w wr b A' n' c' x' (tot (L.take k) dz))) (fun iv _ => n - (intOf iv).toNat)
  case atStart => exact ⟨0, _, _, _, _, _, rfl, by omega, E0.out⟩
  case round =>
    obtain ⟨k, bt, At, nt, ct, xt, rfl, hk, hE⟩ := hrel
    by_cases hkn : k < n
    · obtain ⟨ad, c', e, hc', hb, hcell⟩ := (HS.out _ hE.out.b).at_ k (by rw [← HN.out]; exact hkn)
      injection e with e1 e2 e3
      subst e1
      clear e2 e3 hc' c' hb
      obtain ⟨x, hx⟩ : ∃ x, L.getD k 0 = x := ⟨_, rfl⟩
      have hx2 : L[k]? = some x := by
        rw [List.getD_eq_getElem?_getD] at hx
        rw [List.getElem?_eq_getElem (by rw [← HN.out]; exact hkn)] at hx ⊢
        rw [← hx]; rfl
      have hfx : fi x := HF.out x (List.mem_of_getElem? hx2)
      have hd := tot_succ hx2 dz
      rw [hx] at hcell
      have HD := Lib.hid hd
      have HX := Lib.hid hfx
      obtain ⟨dt, hdt⟩ : ∃ dt, tot (L.take k) dz = dt := ⟨_, rfl⟩
      rw [hdt] at hE HD
      clear hx hx2 hfx hd hdt
      go_wp2_with (first
        | (go_at_call 13; (with_reducible refine (OF.out _ _ HX.out hE.out.b).mono ?_); rintro e w2 ⟨b2, A2, n2, c2, x2, rfl, hv2, hb2⟩; have s := hb2.alloc hb2.size (.cells #[.bool b2, .slice A2 n2 c2, .int .i64 x2] 25); have X2 := BD.new hv2.dv; have E2 := hE.out.below s; clear hv2 hb2 s; obtain ⟨q0, q1, q2⟩ := X2.bx; have p0 := E2.t.at_ 0 rfl; have p1 := E2.t.at_ 1 rfl; have p2 := E2.t.at_ 2 rfl; have E2 := Lib.hid E2)
        | (go_at_call 29; (with_reducible refine (AD.out _ _ _ _ _ E2.out.g.dv X2.dv E2.out.b).mono ?_); rintro e w3 ⟨b3, A3, n3, c3, x3, rfl, hv3, hb3⟩; have E3 := E2.out.below hb3; have p0 := E3.t.at_ 0 rfl; have p1 := E3.t.at_ 1 rfl; have p2 := E3.t.at_ 2 rfl; have f0 := E3.t.frozen 0; have f1 := E3.t.frozen 1; have f2 := E3.t.frozen 2; have E4 := Lib.hid (E3.set hv3); clear E3 hv3 hb3))
      go_roundw
      case rel => exact ⟨k + 1, _, _, _, _, _, by go_num, by omega, by rw [HD.out]; exact E4.out⟩
      case measure => simp [intOf]; omega
    · have hkn2 : k = n := by omega
      subst hkn2
      have he : L.take k = L := by rw [HN.out, List.take_length]
      rw [he] at hE
      have p0 := hE.out.t.at_ 0 rfl
      have p1 := hE.out.t.at_ 1 rfl
      have p2 := hE.out.t.at_ 2 rfl
      have t0 := hE.out.r.at_ 0 rfl
      have t1 := hE.out.r.at_ 1 rfl
      have t2 := hE.out.r.at_ 2 rfl
      have f0 := hE.out.r.frozen 0
      have f1 := hE.out.r.frozen 1
      have f2 := hE.out.r.frozen 2
      clear he
      go_wp2
      exact bodyPost_ret (v := .agg #[.bool bt, .slice At nt ct, .int .i64 xt]) (by simp [results, Tryd.results117, go_sem, t0, t1, t2]) rfl
        ⟨_, _, _, _, _, rfl, hE.out.g.set3 hE.out.r _ _ _ (by intro z h; cases h) (by intro z h; cases h), below3 hE.out.b (by omega) _ _ _⟩
end SC
end Go.Proofs.YtjplemfdhhkbaaaDoor

/-
  Package sum: All.
-/
namespace Go.Proofs.YtjplemfdhhkbaaaDoor
set_option linter.unusedVariables false
set_option linter.unusedSimpArgs false
open Go.RowKit
set_option linter.unusedVariables false
set_option linter.unusedSimpArgs false
namespace SC
open L NC NK DC RC
/-- what All, Add and Sub tell -/
def ATv (t : Int × Bool × Int) : Value := .tuple #[.int .u64 t.1, .bool t.2.1, .int .i64 t.2.2]
set_option maxRecDepth 100000 in
theorem All_c (A : Option Addr) (n c : Nat) (L : List Int) (mode : Int) (w : World) (hs : Sl .u64 w (.slice A n c) L) (hu : u64s L) (hl : L.length ≤ 9223372036854775807) (hT : TabD w) :
    Calls Tryd.prog 97 #[.slice A n c, .int .i64 mode] w (DC.RetB w (ATv (AT L mode))) := by
  obtain ⟨A', c', e, hc, hcell⟩ := hs.open_
  injection e with e1 e2 e3
  subst e1
  subst e3
  clear hcell
  have CM := Lib.hid (checkMode_c mode w hT)
  by_cases hm : 0 ≤ mode ∧ mode ≤ 4
  · rw [if_pos hm] at CM
    by_cases h2 : 200 < n
    · rw [AT_large hm (by rw [← e2]; exact h2)]
      have h3 : (n : Int) > 200 := by omega
      rw [← e2] at hl
      unfold ATv
      clear hs hu hm hT e2 hc h2
      go_enter Tryd.func97, Tryd.ntmps97
      go_wp2_with (go_at_call 115; (with_reducible refine (CM.out).mono ?_); rintro e w1 ⟨rfl, hb⟩; have hb := Lib.hid hb)
      go_ret3
      exact ⟨rfl, hb.out⟩
    · have hn : ¬ 200 < L.length := by rw [← e2]; exact h2
      have h3 : ¬ (n : Int) > 200 := by omega
      have WVc : Hid (∀ W, Below w.heap.size w W → Calls Tryd.prog 116 #[.slice A n c] W fun e w' => e = .returned (.tuple #[.int .u64 (wv L 0 false).1, .bool (wv L 0 false).2]) ∧ W = w') := fun W hW => withoutValue_c A n c L W (hs.below hW) hu (by omega)
      by_cases hf : ∀ x ∈ L, fi x
      · have hw := (wv_fin hu).2 hf
        rw [hw] at WVc
        generalize (wv L 0 false).1 = v1 at *
        have EXc : Hid (∀ W, Below w.heap.size w W → Calls Tryd.prog 117 #[.slice A n c] W (RetG W (tot L dz))) := fun W hW => exact_c A n c L W (hs.below hW) hf (by omega) (hT.below hW)
        have ZEc : Hid (∀ W, Below w.heap.size w W → Calls Tryd.prog 119 #[.slice A n c, .int .i64 mode] W (DC.RetB W (.int .u64 (ZR L mode)))) := fun W hW => zero_c A n c L mode W (hs.below hW) (by omega)
        have TOc : Hid (∀ (W : World) (v : Value), DV W v (tot L dz) → Below w.heap.size w W → Calls Tryd.prog 91 #[v, .int .i64 mode] W (DC.RetB W (.tuple #[.int .u64 (TX (tot L dz) mode), .bool (TL (tot L dz) mode), .int .i64 0]))) := fun W v hv hW => by
          have := To_d v _ mode W hv (hT.below hW)
          have e : TE (tot L dz) mode = 0 := by
            unfold TE
            rw [if_neg (by simpa using (tot_ok hf hn).1.1), if_pos hm]
          rwa [e] at this
        have a := AT_fin hm hn hf
        have t := tot_ok hf hn
        rw [← t.2, ← S_m] at a
        rw [← e2] at hl
        obtain ⟨X, hX⟩ : ∃ X, AT L mode = X := ⟨_, rfl⟩
        rw [hX] at a ⊢
        have gz : Hid (∀ (W : World) (b : Bool) (A : Option Addr) (n c : Nat) (x : Int), GV W b A n c x (tot L dz) → (n = 0 ↔ (tot L dz).m = 0)) := fun W b A n c x h => gv_zero h
        generalize TX (tot L dz) mode = tx at *
        generalize TL (tot L dz) mode = tl at *
        generalize tot L dz = d at *
        generalize ZR L mode = z at *
        have hl2 : ¬ (200 : Int) < n := by omega
        clear hs hu hT e2 hc h2 hn hf hw t hX
        by_cases h0 : d.m = 0
        · have ax := a.1 h0
          subst ax
          unfold ATv
          have gz2 : Hid (∀ (W : World) (b : Bool) (A : Option Addr) (n c : Nat) (x : Int), GV W b A n c x d → n = 0) := fun W b A n c x h => (gz.out W b A n c x h).2 h0
          clear a gz TOc h0 hm
          go_enter Tryd.func97, Tryd.ntmps97
          go_wp2_with (first
            | (go_at_call 115; (with_reducible refine (CM.out).mono ?_); rintro e w1 ⟨rfl, hb⟩; have D := Lib.hid hb; clear hb)
            | (go_at_call 116; (with_reducible refine (WVc.out _ D.out).mono ?_); rintro e w2 ⟨rfl, rfl⟩)
            | (go_at_call 117; (with_reducible refine (EXc.out _ D.out).mono ?_); rintro e w3 ⟨b3, A3, n3, c3, x3, rfl, hv, hb⟩; obtain rfl := gz2.out _ _ _ _ _ _ hv; have s := hb.alloc hb.size (.cells #[.bool b3, .slice A3 0 c3, .int .i64 x3] 25); have Xb := BD.new hv.dv; have D := Lib.hid (D.out.trans (s.mono D.out.size)); clear hv hb s; obtain ⟨b_0, b_1, b_2⟩ := Xb.bx)
            | (go_at_call 118; (with_reducible refine (isZero_c _ _ _ _ _ _).mono ?_); rintro e w4 ⟨rfl, hb⟩; have D := Lib.hid (D.out.trans (hb.mono D.out.size)); clear hb)
            | (go_at_call 119; (with_reducible refine (ZEc.out _ D.out).mono ?_); rintro e w5 ⟨rfl, hb⟩; have D := Lib.hid (D.out.trans (hb.mono D.out.size)); clear hb))
          go_ret3
          exact ⟨rfl, D.out⟩
        · have ax := a.2 fun h => h0 (S_m.2 h)
          subst ax
          unfold ATv
          have gz2 : Hid (∀ (W : World) (b : Bool) (A : Option Addr) (n c : Nat) (x : Int), GV W b A n c x d → n ≠ 0) := fun W b A n c x h h1 => h0 ((gz.out W b A n c x h).1 h1)
          clear a gz ZEc h0 hm
          go_enter Tryd.func97, Tryd.ntmps97
          go_wp2_with (first
            | (go_at_call 115; (with_reducible refine (CM.out).mono ?_); rintro e w1 ⟨rfl, hb⟩; have D := Lib.hid hb; clear hb)
            | (go_at_call 116; (with_reducible refine (WVc.out _ D.out).mono ?_); rintro e w2 ⟨rfl, rfl⟩)
            | (go_at_call 117; (with_reducible refine (EXc.out _ D.out).mono ?_); rintro e w3 ⟨b3, A3, n3, c3, x3, rfl, hv, hb⟩; have hn3 := gz2.out _ _ _ _ _ _ hv; have hd3 : decide (n3 = 0) = false := (by simpa using hn3); have s := hb.alloc hb.size (.cells #[.bool b3, .slice A3 n3 c3, .int .i64 x3] 25); have Xb := BD.new hv.dv; have D := Lib.hid (D.out.trans (s.mono D.out.size)); clear hv hb s; obtain ⟨b_0, b_1, b_2⟩ := Xb.bx)
            | (go_at_call 118; (with_reducible refine (isZero_c _ _ _ _ _ _).mono ?_); rintro e w4 ⟨rfl, hb⟩; have Xb := Xb.below hb; have D := Lib.hid (D.out.trans (hb.mono D.out.size)); clear hb; obtain ⟨b_0, b_1, b_2⟩ := Xb.bx)
            | (go_at_call 91; (with_reducible refine (TOc.out _ _ Xb.dv D.out).mono ?_); rintro e w5 ⟨rfl, hb⟩; have D := Lib.hid (D.out.trans (hb.mono D.out.size)); clear hb))
          go_ret3
          exact ⟨rfl, D.out⟩
      · have hw : (wv L 0 false).2 = true := by
          rcases Bool.eq_false_or_eq_true (wv L 0 false).2 with h | h
          · exact h
          · exact absurd ((wv_fin hu).1 h) hf
        rw [hw] at WVc
        have eA : AT L mode = ((wv L 0 false).1, false, 0) := by
          unfold AT
          rw [if_neg (by simpa using hm), if_neg hn, if_pos hw]
        rw [eA]
        generalize (wv L 0 false).1 = v1 at *
        rw [← e2] at hl
        unfold ATv
        clear hs hu hm hT e2 hc h2 hn hf hw eA
        go_enter Tryd.func97, Tryd.ntmps97
        go_wp2_with (first
          | (go_at_call 115; (with_reducible refine (CM.out).mono ?_); rintro e w1 ⟨rfl, hb⟩; have D := Lib.hid hb; clear hb)
          | (go_at_call 116; (with_reducible refine (WVc.out _ D.out).mono ?_); rintro e w2 ⟨rfl, rfl⟩))
        go_ret3
        exact ⟨rfl, D.out⟩
  · rw [if_neg hm] at CM
    rw [AT_no hm]
    unfold ATv
    clear hs hu hm hT e2 hc
    go_enter Tryd.func97, Tryd.ntmps97
    go_wp2_with (go_at_call 115; (with_reducible refine (CM.out).mono ?_); rintro e w1 ⟨rfl, hb⟩; have hb := Lib.hid hb)
    go_ret3
    exact ⟨rfl, hb.out⟩
end SC
end Go.Proofs.YtjplemfdhhkbaaaDoor

/-
  Package sum: Add, Sub.
-/
namespace Go.Proofs.YtjplemfdhhkbaaaDoor
set_option linter.unusedVariables false
set_option linter.unusedSimpArgs false
open Go.RowKit
set_option linter.unusedVariables false
set_option linter.unusedSimpArgs false
namespace SC
open L NC NK DC RC
theorem Add_c (x y mode : Int) (w : World) (hx : 0 ≤ x ∧ x ≤ 18446744073709551615) (hy : 0 ≤ y ∧ y ≤ 18446744073709551615) (hT : TabD w) :
    Calls Tryd.prog 51 #[.int .u64 x, .int .u64 y, .int .i64 mode] w (DC.RetB w (ATv (AT [x, y] mode))) := by
  have D0 := al1 w (.cells #[.int .u64 x, .int .u64 y] 22)
  have hs : Sl .u64 (w.alloc (.cells #[.int .u64 x, .int .u64 y] 22)) (.slice (some ⟨w.heap.size, 0, none⟩) 2 2) [x, y] := Row.sl (k := .u64) (e := 22) (L := [x, y]) (Blk.new w 22 #[.int .u64 x, .int .u64 y]) 2 (by simp)
  obtain ⟨W0, hW0⟩ : ∃ W0, w.alloc (.cells #[.int .u64 x, .int .u64 y] 22) = W0 := ⟨_, rfl⟩
  rw [hW0] at D0 hs
  have AC := Lib.hid (All_c _ _ _ _ mode W0 hs (u2 hx hy) (by simp) (hT.below D0))
  have HW0 := Lib.hid hW0
  have D0 := Lib.hid D0
  obtain ⟨t, ht⟩ : ∃ t, AT [x, y] mode = t := ⟨_, rfl⟩
  rw [ht] at AC ⊢
  obtain ⟨t1, t2, t3⟩ := t
  unfold ATv at AC ⊢
  clear hs hW0 hT ht hx hy
  go_enter Tryd.func51, Tryd.ntmps51
  go_wp2_with (go_at_call 97; rw [HW0.out]; (with_reducible refine (AC.out).mono ?_); rintro e w1 ⟨rfl, hb⟩; have hb := Lib.hid (D0.out.trans (hb.mono D0.out.size)))
  go_ret3
  exact ⟨rfl, hb.out⟩
end SC
end Go.Proofs.YtjplemfdhhkbaaaDoor

/-
  Package prod: checkMode, byClass, exact.
-/
namespace Go.Proofs.YtjplemfdhhkbaaaDoor
set_option linter.unusedVariables false
set_option linter.unusedSimpArgs false
open Go.RowKit
set_option linter.unusedVariables false
set_option linter.unusedSimpArgs false
namespace PC
open L NC NK DC RC SC
theorem checkModeP_c (mode : Int) (w : World) (hT : TabD w) : Calls Tryd.prog 88 #[.int .i64 mode] w (DC.RetB w (.int .i64 (if 0 ≤ mode ∧ mode ≤ 4 then 0 else 1))) := by
  have TO := Lib.hid (To_d (.agg #[.bool false, .slice none 0 0, .int .i64 0]) dz mode w (GV.zero w).dv hT)
  have e : TE dz mode = if 0 ≤ mode ∧ mode ≤ 4 then 0 else 1 := by unfold TE; rw [if_neg (by simp [dz])]
  rw [e] at TO
  clear e hT
  generalize (if 0 ≤ mode ∧ mode ≤ 4 then 0 else 1 : Int) = E at *
  generalize TX dz mode = x at *
  generalize TL dz mode = l at *
  go_enter Tryd.func88, Tryd.ntmps88
  go_wp2_with (go_at_call 91; (with_reducible refine (TO.out).mono ?_); rintro e w1 ⟨rfl, hb⟩)
  go_ret
  exact ⟨rfl, hb⟩
theorem and_top (a : Nat) : a &&& 9223372036854775808 = if a.testBit 63 = true then 9223372036854775808 else 0 := by
  have h2 : (9223372036854775808 : Nat) = 2 ^ 63 := rfl
  have h3 : Nat.testBit 9223372036854775808 63 = true := by decide
  apply Nat.eq_of_testBit_eq
  intro i
  rw [Nat.testBit_and]
  by_cases hi : i = 63
  · subst hi
    rw [h3]
    cases a.testBit 63
    · simp
    · simp [h3]
  · have : Nat.testBit 9223372036854775808 i = false := by rw [h2]; exact Nat.testBit_two_pow_of_ne (by omega)
    rw [this]
    split
    · rw [this]; simp
    · simp
theorem top_bit {x : Int} (h0 : 0 ≤ x) (h1 : x ≤ 18446744073709551615) : x.toNat.testBit 63 = F.sgn x := by
  by_cases h : 9223372036854775808 ≤ x
  · rw [F.sgn_t h, Nat.testBit_eq_decide_div_mod_eq, decide_eq_true_iff]; omega
  · rw [F.sgn_f (by omega), Nat.testBit_eq_decide_div_mod_eq, decide_eq_false_iff_not]; omega
theorem sp_bits {x y : Int} (hx : 0 ≤ x ∧ x ≤ 18446744073709551615) (hy : 0 ≤ y ∧ y ≤ 18446744073709551615) : bits .and .u64 (bits .xor .u64 x y) 9223372036854775808 = sp x y := by
  rw [u64_xor x y hx.1 (by omega) hy.1 (by omega)]
  have hl : x.toNat ^^^ y.toNat < 2 ^ 64 := Nat.xor_lt_two_pow (by omega) (by omega)
  rw [u64_and _ _ (by omega) (by omega) (by decide) (by decide)]
  rw [show (9223372036854775808 : Int).toNat = 9223372036854775808 from rfl, Int.toNat_natCast, and_top, Nat.testBit_xor, top_bit hx.1 hx.2, top_bit hy.1 hy.2]
  unfold sp
  cases F.sgn x <;> cases F.sgn y <;> rfl
set_option maxRecDepth 100000 in
set_option maxHeartbeats 8000000 in
theorem byClass_c (x y : Int) (w : World) (hx : 0 ≤ x ∧ x ≤ 18446744073709551615) (hy : 0 ≤ y ∧ y ≤ 18446744073709551615) :
    Calls Tryd.prog 96 #[.int .u64 x, .int .u64 y] w fun e w' => e = .returned (.tuple #[.int .u64 (bc x y).1, .bool (bc x y).2]) ∧ w = w' := by
  have hs := Lib.hid (sp_bits hx hy)
  have CX : Hid (∀ W : World, Calls Tryd.prog 48 #[.int .u64 x] W fun e w' => e = .returned (.int .i64 (F.cls x)) ∧ W = w') := fun W => FloatC.Class_c x hx.1 hx.2 W
  have CY : Hid (∀ W : World, Calls Tryd.prog 48 #[.int .u64 y] W fun e w' => e = .returned (.int .i64 (F.cls y)) ∧ W = w') := fun W => FloatC.Class_c y hy.1 hy.2 W
  have a := F.cls_bd x
  have b := F.cls_bd y
  have s2 := sp2 x y
  unfold bc
  generalize sp x y = s at *
  obtain ⟨cx, hcx⟩ : ∃ c, F.cls x = c := ⟨_, rfl⟩
  obtain ⟨cy, hcy⟩ : ∃ c, F.cls y = c := ⟨_, rfl⟩
  rw [hcx] at a CX ⊢
  rw [hcy] at b CY ⊢
  have kx : cx = 1 ∨ cx = 2 ∨ cx = 3 ∨ cx = 4 ∨ cx = 5 := by omega
  have ky : cy = 1 ∨ cy = 2 ∨ cy = 3 ∨ cy = 4 ∨ cy = 5 := by omega
  clear hcx hcy a b hx hy
  obtain ⟨r, hr⟩ : ∃ r : Int × Bool, r = (if max cx cy = 5 ∨ (max cx cy = 4 ∧ min cx cy = 1) then (9221120237041090560, true) else if max cx cy = 4 then (s + 9218868437227405312, true) else if min cx cy = 1 then (s, true) else (0, false)) := ⟨_, rfl⟩
  rw [← hr]
  have HR := Lib.hid hr
  clear hr
  obtain ⟨r1, r2⟩ := r
  rcases kx with rfl | rfl | rfl | rfl | rfl <;> rcases ky with rfl | rfl | rfl | rfl | rfl
  all_goals (
    have h2 := HR.out
    clear HR
    first
      | (rw [if_pos (by decide)] at h2)
      | (rw [if_neg (by decide), if_pos (by decide)] at h2)
      | (rw [if_neg (by decide), if_neg (by decide), if_pos (by decide)] at h2)
      | (rw [if_neg (by decide), if_neg (by decide), if_neg (by decide)] at h2)
    obtain ⟨rfl, rfl⟩ := Prod.mk.inj h2
    clear h2
    go_enter Tryd.func96, Tryd.ntmps96
    go_wp2_with (first
      | (go_at_call 48; (with_reducible refine (CX.out _).mono ?_); rintro e w1 ⟨rfl, rfl⟩)
      | (go_at_call 48; (with_reducible refine (CY.out _).mono ?_); rintro e w1 ⟨rfl, rfl⟩))
    go_ret2
    first
      | exact ⟨rfl, rfl⟩
      | (rw [hs.out]; exact ⟨rfl, rfl⟩)
      | (rw [hs.out]; rcases s2 with rfl | rfl <;> exact ⟨rfl, rfl⟩))
set_option maxRecDepth 100000 in
set_option maxHeartbeats 1000000 in
theorem exact_c (x y : Int) (w : World) (hx : 0 ≤ x ∧ x ≤ 18446744073709551615) (hy : 0 ≤ y ∧ y ≤ 18446744073709551615) (hT : TabD w) :
    Calls Tryd.prog 90 #[.int .u64 x, .int .u64 y] w (RetD w (PD x y)) := by
  obtain ⟨W0, hW0, D0, ZS, KB⟩ := res0 w
  have O1 := Lib.hid (Of_d x hx.1 hx.2 W0 (hT.below D0))
  have O2 : Hid (∀ W, Below W0.heap.size W0 W → Calls Tryd.prog 13 #[.int .u64 y] W (RetD W (OfD y))) := fun W hW => Of_d y hy.1 hy.2 W ((hT.below D0).below hW)
  have ML : Hid (∀ (W : World) (u v : Value) (d1 d2 : Dy), DV W u d1 → DV W v d2 → Below W0.heap.size W0 W → Calls Tryd.prog 31 #[u, v] W (RetD W (DC.Mul d1 d2))) := fun W u v d1 d2 h1 h2 hW => Mul_d u v d1 d2 W h1 h2 ((hT.below D0).below hW)
  have KB := Lib.hid KB
  have D0 := Lib.hid D0
  have HW0 := Lib.hid hW0
  have P : Hid (PD x y = if (OfD x).e = 0 then (if (OfD y).e = 0 then DC.Mul (OfD x).d (OfD y).d else ⟨(OfD y).e, dz⟩) else ⟨(OfD x).e, dz⟩) := by
    unfold PD
    by_cases h1 : F.exq x = 2047
    · have e1 : OfD x = ⟨4, dz⟩ := by unfold OfD; rw [if_pos h1]
      rw [if_pos (.inl h1), e1]; rfl
    · have e1 := (of_fit ⟨hx.1, hx.2, h1⟩).1
      rw [if_pos e1]
      by_cases h2 : F.exq y = 2047
      · have e2 : OfD y = ⟨4, dz⟩ := by unfold OfD; rw [if_pos h2]
        rw [if_pos (.inr h2), e2]; rfl
      · have e2 := (of_fit ⟨hy.1, hy.2, h2⟩).1
        rw [if_pos e2, if_neg (by omega)]
        exact rfl
  obtain ⟨rr, hrr⟩ : ∃ rr, PD x y = rr := ⟨_, rfl⟩
  rw [hrr] at P ⊢
  generalize OfD x = r1 at *
  generalize OfD y = r2 at *
  obtain ⟨e1, d1⟩ := r1
  obtain ⟨e2, d2⟩ := r2
  clear hW0 hT hx hy hrr
  by_cases h1 : e1 = 0
  · subst h1
    by_cases h2 : e2 = 0
    · subst h2
      obtain rfl : rr = DC.Mul d1 d2 := P.out
      clear P
      go_enter Tryd.func90, Tryd.ntmps90
      go_wp2_with (first
        | (go_at_call 13; rw [HW0.out]; (with_reducible refine (O1.out).mono ?_); rintro e w5 ⟨b5, A5, n5, c5, x5, rfl, hv5, hb0⟩; have s := hb0.alloc hb0.size (.cells #[.bool b5, .slice A5 n5 c5, .int .i64 x5] 25); have X1 := BD.new hv5.dv; have D := Lib.hid s; clear hv5 hb0 s)
        | (go_at_call 13; (with_reducible refine (O2.out _ D.out).mono ?_); rintro e w6 ⟨b6, A6, n6, c6, x6, rfl, hv6, hb0⟩; have s := hb0.alloc hb0.size (.cells #[.bool b6, .slice A6 n6 c6, .int .i64 x6] 25); have X2 := BD.new hv6.dv; have X1 := X1.below s; have D := Lib.hid (D.out.trans (s.mono D.out.size)); clear hv6 hb0 s; obtain ⟨a_0, a_1, a_2⟩ := X1.bx; obtain ⟨b_0, b_1, b_2⟩ := X2.bx)
        | (go_at_call 31; (with_reducible refine (ML.out _ _ _ _ _ X1.dv X2.dv D.out).mono ?_); rintro e w7 ⟨b7, A7, n7, c7, x7, rfl, hv7, hb0⟩; have D := Lib.hid (D.out.trans (hb0.mono D.out.size)); have R2 := KB.out _ D.out; have t0 := R2.at_ 0 rfl; have t1 := R2.at_ 1 rfl; have t2 := R2.at_ 2 rfl; have f0 := R2.frozen 0; have f1 := R2.frozen 1; have f2 := R2.frozen 2; have R2 := Lib.hid R2))
      exact bodyPost_ret (v := .tuple #[.agg #[.bool b7, .slice A7 n7 c7, .int .i64 x7], .int .i64 (DC.Mul d1 d2).e]) (by simp [results, Tryd.results90, go_sem, t0, t1, t2]) rfl
        ⟨_, _, _, _, _, rfl, hv7.set3 R2.out _ _ _ (by intro z h; cases h) (by intro z h; cases h), below3 (D0.out.trans (D.out.mono D0.out.size)) (by omega) _ _ _⟩
    · have ep := P.out
      simp only [if_pos] at ep
      rw [if_neg h2] at ep
      subst ep
      have t2' : (e2 != 0) = true := by simp [h2]
      clear P ML h2
      go_enter Tryd.func90, Tryd.ntmps90
      go_wp2_with (first
        | (go_at_call 13; rw [HW0.out]; (with_reducible refine (O1.out).mono ?_); rintro e w5 ⟨b5, A5, n5, c5, x5, rfl, hv5, hb0⟩; have s := hb0.alloc hb0.size (.cells #[.bool b5, .slice A5 n5 c5, .int .i64 x5] 25); have D := Lib.hid s; clear hv5 hb0 s)
        | (go_at_call 13; (with_reducible refine (O2.out _ D.out).mono ?_); rintro e w6 ⟨b6, A6, n6, c6, x6, rfl, hv6, hb0⟩; have s := hb0.alloc hb0.size (.cells #[.bool b6, .slice A6 n6 c6, .int .i64 x6] 25); have D := Lib.hid (D.out.trans (s.mono D.out.size)); clear hv6 hb0 s; have R2 := KB.out _ D.out; have t0 := R2.at_ 0 rfl; have t1 := R2.at_ 1 rfl; have t2 := R2.at_ 2 rfl; have f0 := R2.frozen 0; have f1 := R2.frozen 1; have f2 := R2.frozen 2; have R2 := Lib.hid R2))
      exact bodyPost_ret (v := .tuple #[.agg #[.bool false, .slice none 0 0, .int .i64 0], .int .i64 e2]) (by simp [results, Tryd.results90, go_sem, t0, t1, t2]) rfl
        (RetD.none (below3 (D0.out.trans (D.out.mono D0.out.size)) (by omega) _ _ _))
  · have ep := P.out
    rw [if_neg h1] at ep
    subst ep
    have t1' : (e1 != 0) = true := by simp [h1]
    clear P ML O2 h1
    go_enter Tryd.func90, Tryd.ntmps90
    go_wp2_with (first
      | (go_at_call 13; rw [HW0.out]; (with_reducible refine (O1.out).mono ?_); rintro e w5 ⟨b5, A5, n5, c5, x5, rfl, hv5, hb0⟩; have s := hb0.alloc hb0.size (.cells #[.bool b5, .slice A5 n5 c5, .int .i64 x5] 25); have D := Lib.hid s; clear hv5 hb0 s; have R2 := KB.out _ D.out; have t0 := R2.at_ 0 rfl; have t1 := R2.at_ 1 rfl; have t2 := R2.at_ 2 rfl; have f0 := R2.frozen 0; have f1 := R2.frozen 1; have f2 := R2.frozen 2; have R2 := Lib.hid R2))
    exact bodyPost_ret (v := .tuple #[.agg #[.bool false, .slice none 0 0, .int .i64 0], .int .i64 e1]) (by simp [results, Tryd.results90, go_sem, t0, t1, t2]) rfl
      (RetD.none (below3 (D0.out.trans (D.out.mono D0.out.size)) (by omega) _ _ _))
end PC
end Go.Proofs.YtjplemfdhhkbaaaDoor

/-
  Package prod: Mul, Fma.
-/
namespace Go.Proofs.YtjplemfdhhkbaaaDoor
set_option linter.unusedVariables false
set_option linter.unusedSimpArgs false
open Go.RowKit
set_option linter.unusedVariables false
set_option linter.unusedSimpArgs false
namespace PC
open L NC NK DC RC SC
theorem TE_ok {d : Dy} {mode : Int} (hm : 0 ≤ mode ∧ mode ≤ 4) (h : Ok d) : TE d mode = 0 := by
  unfold TE
  rw [if_neg (by simpa using h.1), if_pos hm]
set_option maxRecDepth 100000 in
theorem Mul_c (x y mode : Int) (w : World) (hx : 0 ≤ x ∧ x ≤ 18446744073709551615) (hy : 0 ≤ y ∧ y ≤ 18446744073709551615) (hT : TabD w) :
    Calls Tryd.prog 45 #[.int .u64 x, .int .u64 y, .int .i64 mode] w (DC.RetB w (ATv (MT x y mode))) := by
  have CM := Lib.hid (checkModeP_c mode w hT)
  have BC : Hid (∀ W : World, Calls Tryd.prog 96 #[.int .u64 x, .int .u64 y] W fun e w' => e = .returned (.tuple #[.int .u64 (bc x y).1, .bool (bc x y).2]) ∧ W = w') := fun W => byClass_c x y W hx hy
  unfold ATv
  by_cases hm : 0 ≤ mode ∧ mode ≤ 4
  · rw [if_pos hm] at CM
    cases h : (bc x y).2
    · have n := (bc_no hx hy).1 h
      have p := pd_p n.1 n.2.1 rfl
      have EX : Hid (∀ W, Below w.heap.size w W → Calls Tryd.prog 90 #[.int .u64 x, .int .u64 y] W (RetD W (PD x y))) := fun W hW => exact_c x y W hx hy (hT.below hW)
      have TOc : Hid (∀ (W : World) (v : Value), DV W v (PD x y).d → Below w.heap.size w W → Calls Tryd.prog 91 #[v, .int .i64 mode] W (DC.RetB W (.tuple #[.int .u64 (TX (PD x y).d mode), .bool (TL (PD x y).d mode), .int .i64 0]))) := fun W v hv hW => by
        have := To_d v _ mode W hv (hT.below hW)
        rwa [TE_ok hm p.2.1.ok] at this
      rw [MT_fi hm h]
      rw [h] at BC
      generalize (bc x y).1 = v1 at *
      generalize TX (PD x y).d mode = tx at *
      generalize TL (PD x y).d mode = tl at *
      generalize PD x y = r at *
      obtain ⟨re, d⟩ := r
      clear hT hx hy hm h n p
      go_enter Tryd.func45, Tryd.ntmps45
      go_wp2_with (first
        | (go_at_call 88; (with_reducible refine (CM.out).mono ?_); rintro e w1 ⟨rfl, hb⟩; have D := Lib.hid hb; clear hb)
        | (go_at_call 96; (with_reducible refine (BC.out _).mono ?_); rintro e w2 ⟨rfl, rfl⟩)
        | (go_at_call 90; (with_reducible refine (EX.out _ D.out).mono ?_); rintro e w3 ⟨b3, A3, n3, c3, x3, rfl, hv, hb⟩; have s := hb.alloc hb.size (.cells #[.bool b3, .slice A3 n3 c3, .int .i64 x3] 25); have Xb := BD.new hv.dv; have D := Lib.hid (D.out.trans (s.mono D.out.size)); clear hv hb s; obtain ⟨b_0, b_1, b_2⟩ := Xb.bx)
        | (go_at_call 91; (with_reducible refine (TOc.out _ _ Xb.dv D.out).mono ?_); rintro e w5 ⟨rfl, hb⟩; have D := Lib.hid (D.out.trans (hb.mono D.out.size)); clear hb))
      go_ret3
      exact ⟨rfl, D.out⟩
    · rw [MT_bc hm h]
      rw [h] at BC
      generalize (bc x y).1 = v1 at *
      clear hT hx hy hm h
      go_enter Tryd.func45, Tryd.ntmps45
      go_wp2_with (first
        | (go_at_call 88; (with_reducible refine (CM.out).mono ?_); rintro e w1 ⟨rfl, hb⟩; have D := Lib.hid hb; clear hb)
        | (go_at_call 96; (with_reducible refine (BC.out _).mono ?_); rintro e w2 ⟨rfl, rfl⟩))
      go_ret3
      exact ⟨rfl, D.out⟩
  · rw [if_neg hm] at CM
    rw [MT_no hm]
    clear hT hx hy hm BC
    go_enter Tryd.func45, Tryd.ntmps45
    go_wp2_with (first
      | (go_at_call 88; (with_reducible refine (CM.out).mono ?_); rintro e w1 ⟨rfl, hb⟩; have D := Lib.hid hb; clear hb))
    go_ret3
    exact ⟨rfl, D.out⟩
set_option maxRecDepth 100000 in
set_option maxHeartbeats 4000000 in
theorem Fma_c (x y z mode : Int) (w : World) (hx : 0 ≤ x ∧ x ≤ 18446744073709551615) (hy : 0 ≤ y ∧ y ≤ 18446744073709551615) (hz : 0 ≤ z ∧ z ≤ 18446744073709551615) (hT : TabD w) :
    Calls Tryd.prog 50 #[.int .u64 x, .int .u64 y, .int .u64 z, .int .i64 mode] w (DC.RetB w (ATv (FT x y z mode))) := by
  have CM := Lib.hid (checkModeP_c mode w hT)
  have BC : Hid (∀ W : World, Calls Tryd.prog 96 #[.int .u64 x, .int .u64 y] W fun e w' => e = .returned (.tuple #[.int .u64 (bc x y).1, .bool (bc x y).2]) ∧ W = w') := fun W => byClass_c x y W hx hy
  by_cases hm : 0 ≤ mode ∧ mode ≤ 4
  · rw [if_pos hm] at CM
    cases h : (bc x y).2
    · have n := (bc_no hx hy).1 h
      have OF : Hid (∀ W, Below w.heap.size w W → Calls Tryd.prog 13 #[.int .u64 z] W (RetD W (OfD z))) := fun W hW => Of_d z hz.1 hz.2 W (hT.below hW)
      by_cases hq : F.exq z = 2047
      · rw [FT_nf hm h hq]
        have e1 : OfD z = ⟨4, dz⟩ := by unfold OfD; rw [if_pos hq]
        rw [e1] at OF
        have AD : Hid (∀ W : World, Below w.heap.size w W → Calls Tryd.prog 51 #[.int .u64 0, .int .u64 z, .int .i64 mode] W (DC.RetB W (ATv (AT [0, z] mode)))) := fun W hW => Add_c 0 z mode W (by omega) hz (hT.below hW)
        unfold ATv at AD ⊢
        rw [h] at BC
        generalize (bc x y).1 = v1 at *
        generalize AT [0, z] mode = t at *
        obtain ⟨t1, t2, t3⟩ := t
        clear hT hx hy hz hm h n hq e1
        go_enter Tryd.func50, Tryd.ntmps50
        go_wp2_with (first
          | (go_at_call 88; (with_reducible refine (CM.out).mono ?_); rintro e w1 ⟨rfl, hb⟩; have D := Lib.hid hb; clear hb)
          | (go_at_call 96; (with_reducible refine (BC.out _).mono ?_); rintro e w2 ⟨rfl, rfl⟩)
          | (go_at_call 13; (with_reducible refine (OF.out _ D.out).mono ?_); rintro e w3 ⟨b3, A3, n3, c3, x3, rfl, hv, hb⟩; have s := hb.alloc hb.size (.cells #[.bool b3, .slice A3 n3 c3, .int .i64 x3] 25); have D := Lib.hid (D.out.trans (s.mono D.out.size)); clear hv hb s)
          | (go_at_call 51; (with_reducible refine (AD.out _ D.out).mono ?_); rintro e w5 ⟨rfl, hb⟩; have D := Lib.hid (D.out.trans (hb.mono D.out.size)); clear hb))
        go_ret3
        exact ⟨rfl, D.out⟩
      · have fz : fi z := ⟨hz.1, hz.2, hq⟩
        have e0 := (of_fit fz).1
        have p := pd_p n.1 n.2.1 rfl
        have fp := fd_p n.1 n.2.1 fz
        rw [FT_fi hm h hq]
        have EX : Hid (∀ W, Below w.heap.size w W → Calls Tryd.prog 90 #[.int .u64 x, .int .u64 y] W (RetD W (PD x y))) := fun W hW => exact_c x y W hx hy (hT.below hW)
        have AD : Hid (∀ (W : World) (u v : Value), DV W u (PD x y).d → DV W v (OfD z).d → Below w.heap.size w W → ∃ re, Calls Tryd.prog 29 #[u, v] W (RetD W ⟨re, fd x y z⟩)) := fun W u v h1 h2 hW => ⟨(DC.Add (PD x y).d (OfD z).d).e, Add_d u v _ _ W h1 h2 (hT.below hW)⟩
        have TOc : Hid (∀ (W : World) (v : Value), DV W v (fd x y z) → Below w.heap.size w W → Calls Tryd.prog 91 #[v, .int .i64 mode] W (DC.RetB W (.tuple #[.int .u64 (TX (fd x y z) mode), .bool (TL (fd x y z) mode), .int .i64 0]))) := fun W v hv hW => by
          have := To_d v _ mode W hv (hT.below hW)
          rwa [TE_ok hm fp.1.ok] at this
        have gz : Hid (∀ (W : World) (b : Bool) (A : Option Addr) (n c : Nat) (x' : Int), GV W b A n c x' (fd x y z) → (n = 0 ↔ (fd x y z).m = 0)) := fun W b A n c x h => gv_zero h
        rw [h] at BC
        unfold ATv
        generalize (bc x y).1 = v1 at *
        generalize TX (fd x y z) mode = tx at *
        generalize TL (fd x y z) mode = tl at *
        generalize fd x y z = df at *
        generalize PD x y = r at *
        obtain ⟨re, d⟩ := r
        have ez : OfD z = ⟨0, (OfD z).d⟩ := by rw [← e0]
        rw [ez] at OF
        dsimp only at OF AD
        generalize (OfD z).d = dzz at OF AD
        clear hT hx hy hz hm h n hq fz p fp e0 ez
        have key : ∀ t : Int × Bool × Int, (t = if df.m = 0 ∧ mode = 2 then (9223372036854775808, false, 0) else (tx, tl, 0)) → Calls Tryd.prog 50 #[.int .u64 x, .int .u64 y, .int .u64 z, .int .i64 mode] w (DC.RetB w (.tuple #[.int .u64 t.1, .bool t.2.1, .int .i64 t.2.2])) := by
          rintro t ht
          by_cases h0 : df.m = 0
          · have gz2 : Hid (∀ (W : World) (b : Bool) (A : Option Addr) (n c : Nat) (x : Int), GV W b A n c x df → n = 0) := fun W b A n c x h => (gz.out W b A n c x h).2 h0
            by_cases h2 : mode = 2
            · rw [if_pos ⟨h0, h2⟩] at ht
              subst ht
              subst h2
              clear gz TOc h0
              go_enter Tryd.func50, Tryd.ntmps50
              go_wp2_with (first
                | (go_at_call 88; (with_reducible refine (CM.out).mono ?_); rintro e w1 ⟨rfl, hb⟩; have D := Lib.hid hb; clear hb)
                | (go_at_call 96; (with_reducible refine (BC.out _).mono ?_); rintro e w2 ⟨rfl, rfl⟩)
                | (go_at_call 13; (with_reducible refine (OF.out _ D.out).mono ?_); rintro e w3 ⟨b3, A3, n3, c3, x3, rfl, hv, hb⟩; have s := hb.alloc hb.size (.cells #[.bool b3, .slice A3 n3 c3, .int .i64 x3] 25); have X1 := BD.new hv.dv; have D := Lib.hid (D.out.trans (s.mono D.out.size)); clear hv hb s)
                | (go_at_call 90; (with_reducible refine (EX.out _ D.out).mono ?_); rintro e w4 ⟨b4, A4, n4, c4, x4, rfl, hv, hb⟩; have s := hb.alloc hb.size (.cells #[.bool b4, .slice A4 n4 c4, .int .i64 x4] 25); have X2 := BD.new hv.dv; have X1 := X1.below s; have D := Lib.hid (D.out.trans (s.mono D.out.size)); clear hv hb s; obtain ⟨a_0, a_1, a_2⟩ := X1.bx; obtain ⟨b_0, b_1, b_2⟩ := X2.bx)
                | (go_at_call 29; obtain ⟨re5, had⟩ := AD.out _ _ _ X2.dv X1.dv D.out; (with_reducible refine had.mono ?_); clear had; rintro e w5 ⟨b5, A5, n5, c5, x5, rfl, hv, hb⟩; obtain rfl := gz2.out _ _ _ _ _ _ hv; have s := hb.alloc hb.size (.cells #[.bool b5, .slice A5 0 c5, .int .i64 x5] 25); have X3 := BD.new hv.dv; have D := Lib.hid (D.out.trans (s.mono D.out.size)); clear hv hb s; obtain ⟨c_0, c_1, c_2⟩ := X3.bx))
              go_ret3
              exact ⟨rfl, D.out⟩
            · rw [if_neg (fun k => h2 k.2)] at ht
              subst ht
              have t2 : (mode == 2) = false := by simp [h2]
              clear gz h0 h2
              go_enter Tryd.func50, Tryd.ntmps50
              go_wp2_with (first
                | (go_at_call 88; (with_reducible refine (CM.out).mono ?_); rintro e w1 ⟨rfl, hb⟩; have D := Lib.hid hb; clear hb)
                | (go_at_call 96; (with_reducible refine (BC.out _).mono ?_); rintro e w2 ⟨rfl, rfl⟩)
                | (go_at_call 13; (with_reducible refine (OF.out _ D.out).mono ?_); rintro e w3 ⟨b3, A3, n3, c3, x3, rfl, hv, hb⟩; have s := hb.alloc hb.size (.cells #[.bool b3, .slice A3 n3 c3, .int .i64 x3] 25); have X1 := BD.new hv.dv; have D := Lib.hid (D.out.trans (s.mono D.out.size)); clear hv hb s)
                | (go_at_call 90; (with_reducible refine (EX.out _ D.out).mono ?_); rintro e w4 ⟨b4, A4, n4, c4, x4, rfl, hv, hb⟩; have s := hb.alloc hb.size (.cells #[.bool b4, .slice A4 n4 c4, .int .i64 x4] 25); have X2 := BD.new hv.dv; have X1 := X1.below s; have D := Lib.hid (D.out.trans (s.mono D.out.size)); clear hv hb s; obtain ⟨a_0, a_1, a_2⟩ := X1.bx; obtain ⟨b_0, b_1, b_2⟩ := X2.bx)
                | (go_at_call 29; obtain ⟨re5, had⟩ := AD.out _ _ _ X2.dv X1.dv D.out; (with_reducible refine had.mono ?_); clear had; rintro e w5 ⟨b5, A5, n5, c5, x5, rfl, hv, hb⟩; obtain rfl := gz2.out _ _ _ _ _ _ hv; have s := hb.alloc hb.size (.cells #[.bool b5, .slice A5 0 c5, .int .i64 x5] 25); have X3 := BD.new hv.dv; have D := Lib.hid (D.out.trans (s.mono D.out.size)); clear hv hb s; obtain ⟨c_0, c_1, c_2⟩ := X3.bx)
                | (go_at_call 91; (with_reducible refine (TOc.out _ _ X3.dv D.out).mono ?_); rintro e w6 ⟨rfl, hb⟩; have D := Lib.hid (D.out.trans (hb.mono D.out.size)); clear hb))
              go_ret3
              exact ⟨rfl, D.out⟩
          · rw [if_neg (fun k => h0 k.1)] at ht
            subst ht
            have gz2 : Hid (∀ (W : World) (b : Bool) (A : Option Addr) (n c : Nat) (x : Int), GV W b A n c x df → n ≠ 0) := fun W b A n c x h h1 => h0 ((gz.out W b A n c x h).1 h1)
            clear gz h0
            go_enter Tryd.func50, Tryd.ntmps50
            go_wp2_with (first
              | (go_at_call 88; (with_reducible refine (CM.out).mono ?_); rintro e w1 ⟨rfl, hb⟩; have D := Lib.hid hb; clear hb)
              | (go_at_call 96; (with_reducible refine (BC.out _).mono ?_); rintro e w2 ⟨rfl, rfl⟩)
              | (go_at_call 13; (with_reducible refine (OF.out _ D.out).mono ?_); rintro e w3 ⟨b3, A3, n3, c3, x3, rfl, hv, hb⟩; have s := hb.alloc hb.size (.cells #[.bool b3, .slice A3 n3 c3, .int .i64 x3] 25); have X1 := BD.new hv.dv; have D := Lib.hid (D.out.trans (s.mono D.out.size)); clear hv hb s)
              | (go_at_call 90; (with_reducible refine (EX.out _ D.out).mono ?_); rintro e w4 ⟨b4, A4, n4, c4, x4, rfl, hv, hb⟩; have s := hb.alloc hb.size (.cells #[.bool b4, .slice A4 n4 c4, .int .i64 x4] 25); have X2 := BD.new hv.dv; have X1 := X1.below s; have D := Lib.hid (D.out.trans (s.mono D.out.size)); clear hv hb s; obtain ⟨a_0, a_1, a_2⟩ := X1.bx; obtain ⟨b_0, b_1, b_2⟩ := X2.bx)
              | (go_at_call 29; obtain ⟨re5, had⟩ := AD.out _ _ _ X2.dv X1.dv D.out; (with_reducible refine had.mono ?_); clear had; rintro e w5 ⟨b5, A5, n5, c5, x5, rfl, hv, hb⟩; have hn5 := gz2.out _ _ _ _ _ _ hv; have hd5 : ((n5 : Int) == 0) = false := (by simpa using hn5); have s := hb.alloc hb.size (.cells #[.bool b5, .slice A5 n5 c5, .int .i64 x5] 25); have X3 := BD.new hv.dv; have D := Lib.hid (D.out.trans (s.mono D.out.size)); clear hv hb s; obtain ⟨c_0, c_1, c_2⟩ := X3.bx)
              | (go_at_call 91; (with_reducible refine (TOc.out _ _ X3.dv D.out).mono ?_); rintro e w6 ⟨rfl, hb⟩; have D := Lib.hid (D.out.trans (hb.mono D.out.size)); clear hb))
            go_ret3
            exact ⟨rfl, D.out⟩
        exact key _ rfl
    · rw [FT_bc hm h]
      have bb := bc_bd x y
      rw [h] at BC
      generalize (bc x y).1 = v1 at *
      have AD : Hid (∀ W : World, Below w.heap.size w W → Calls Tryd.prog 51 #[.int .u64 v1, .int .u64 z, .int .i64 mode] W (DC.RetB W (ATv (AT [v1, z] mode)))) := fun W hW => Add_c v1 z mode W bb hz (hT.below hW)
      unfold ATv at AD ⊢
      generalize AT [v1, z] mode = t at *
      obtain ⟨t1, t2, t3⟩ := t
      clear hT hx hy hz hm h bb
      go_enter Tryd.func50, Tryd.ntmps50
      go_wp2_with (first
        | (go_at_call 88; (with_reducible refine (CM.out).mono ?_); rintro e w1 ⟨rfl, hb⟩; have D := Lib.hid hb; clear hb)
        | (go_at_call 96; (with_reducible refine (BC.out _).mono ?_); rintro e w2 ⟨rfl, rfl⟩)
        | (go_at_call 51; (with_reducible refine (AD.out _ D.out).mono ?_); rintro e w5 ⟨rfl, hb⟩; have D := Lib.hid (D.out.trans (hb.mono D.out.size)); clear hb))
      go_ret3
      exact ⟨rfl, D.out⟩
  · rw [if_neg hm] at CM
    rw [FT_no hm]
    unfold ATv
    clear hT hx hy hz hm BC
    go_enter Tryd.func50, Tryd.ntmps50
    go_wp2_with (first
      | (go_at_call 88; (with_reducible refine (CM.out).mono ?_); rintro e w1 ⟨rfl, hb⟩; have D := Lib.hid hb; clear hb))
    go_ret3
    exact ⟨rfl, D.out⟩
end PC
end Go.Proofs.YtjplemfdhhkbaaaDoor

/-
  Package prod: twice three, and one.
-/
namespace Go.Proofs.YtjplemfdhhkbaaaDoor
set_option linter.unusedVariables false
set_option linter.unusedSimpArgs false
open Go.RowKit
set_option linter.unusedVariables false
set_option linter.unusedSimpArgs false
namespace PC
open L NC NK DC RC SC
theorem val_u {e f w u : Int} (he : 1 ≤ e ∧ e ≤ 2046) (hf : 0 ≤ f ∧ f ≤ 4503599627370495) (hw : w = F.mk false e f) {k : Nat} (hu : -60000 ≤ u) (hk : e - 1075 = u + k) : fi w ∧ val w = (4503599627370496 + f) * 2 ^ k * sc 1 u := by
  have h := mk_val he hf hw
  refine ⟨h.1, ?_⟩
  rw [h.2, hk]
  unfold sgm
  rw [← sc_mul1, sc_shift _ _ _ hu]
  simp
/-- twice three is six; and one is seven -/
theorem six {T H Sx Sv O : Int} (hT : T = 4611686018427387904) (hH : H = 4613937818241073152) (h6 : Sx = 4618441417868443648) (h7 : Sv = 4619567317775286272) (hO : O = 4607182418800017408) :
    MT T H 0 = (Sx, false, 0) ∧ FT T H O 0 = (Sv, false, 0) := by
  obtain ⟨K, hK⟩ : ∃ K : Nat, K = 60000 := ⟨_, rfl⟩
  obtain ⟨u, hu⟩ : ∃ u : Int, u = -52 := ⟨_, rfl⟩
  have vT := val_u (e := 1024) (f := 0) (w := T) (u := u) (k := 1) (by omega) (by omega) (by rw [hT]; decide) (by omega) (by omega)
  have vH := val_u (e := 1024) (f := 2251799813685248) (w := H) (u := u) (k := 1) (by omega) (by omega) (by rw [hH]; decide) (by omega) (by omega)
  have v6 := val_u (e := 1025) (f := 2251799813685248) (w := Sx) (u := u) (k := 2) (by omega) (by omega) (by rw [h6]; decide) (by omega) (by omega)
  have v7 := val_u (e := 1025) (f := 3377699720527872) (w := Sv) (u := u) (k := 2) (by omega) (by omega) (by rw [h7]; decide) (by omega) (by omega)
  have vO := val_u (e := 1023) (f := 0) (w := O) (u := u) (k := 0) (by omega) (by omega) (by rw [hO]; decide) (by omega) (by omega)
  have o := one_val hO hK
  have hE := sc_one_pos u
  rw [vO.2] at o
  rw [show (2 : Int) ^ 1 = 2 by decide] at vT vH
  rw [show (2 : Int) ^ 2 = 4 by decide] at v6 v7
  rw [show (2 : Int) ^ 0 = 1 by decide] at o
  have eO : val O = 4503599627370496 * sc 1 u := by rw [vO.2]; simp
  have e0 := o.2.1
  generalize sc 1 u = E at *
  have p := pd_p vT.1 vH.1 hK
  have eS : S (PD T H).d = val Sx := by
    apply K_inj (K := K)
    rw [p.2.2, vT.2, vH.2, v6.2, ← e0]
    generalize (2 : Int) ^ K = P at *
    grind
  have b6 := of_fit v6.1
  have ed : (PD T H).d = (OfD Sx).d := S_inj p.2.1.ok b6.2.ok eS
  have nb : (bc T H).2 = false := by
    rw [bc_no ⟨vT.1.1, vT.1.2.1⟩ ⟨vH.1.1, vH.1.2.1⟩]
    refine ⟨vT.1, vH.1, ?_, ?_⟩
    · rw [vT.2]; omega
    · rw [vH.2]; omega
  have s6 := same_p v6.1.1 v6.1.2.1 v6.1.2.2 (mode := 0) (by omega)
  have s7 := same_p v7.1.1 v7.1.2.1 v7.1.2.2 (mode := 0) (by omega)
  constructor
  · rw [MT_fi (by omega) nb, ed, s6.2.1]
    rcases s6.2.2 with h1 | ⟨-, h, -⟩
    · rw [eq_of_beq h1]
    · omega
  · have fo : fi O := o.1
    rw [FT_fi (by omega) nb fo.2.2, if_neg (fun h => by have := h.2; omega)]
    have f := fd_p vT.1 vH.1 fo
    have b7 := of_fit v7.1
    have ef : fd T H O = (OfD Sv).d := S_inj f.1.ok b7.2.ok (by
      rw [f.2, eS, v6.2, eO]
      show _ = val Sv
      rw [v7.2]
      omega)
    rw [ef, s7.2.1]
    rcases s7.2.2 with h1 | ⟨-, h, -⟩
    · rw [eq_of_beq h1]
    · omega
theorem livesP_c (w : World) (hT : TabD w) : Calls Tryd.prog 46 #[] w fun e w' => e = .returned (.bool true) ∧ Below w.heap.size w w' := by
  obtain ⟨e1, e2⟩ := six rfl rfl rfl rfl rfl
  have A1 := Lib.hid (Mul_c 4611686018427387904 4613937818241073152 0 w (by omega) (by omega) hT)
  have A2 : Hid (∀ W, Below w.heap.size w W → Calls Tryd.prog 50 #[.int .u64 4611686018427387904, .int .u64 4613937818241073152, .int .u64 4607182418800017408, .int .i64 0] W (DC.RetB W (ATv (FT 4611686018427387904 4613937818241073152 4607182418800017408 0)))) := fun W hW => Fma_c _ _ _ 0 W (by omega) (by omega) (by omega) (hT.below hW)
  rw [e1] at A1
  rw [e2] at A2
  unfold ATv at A1 A2
  clear hT e1 e2
  go_enter Tryd.func46, Tryd.ntmps46
  go_wp2_with (first
    | (go_at_call 45; (with_reducible refine (A1.out).mono ?_); rintro e w1 ⟨rfl, hb⟩; have D := Lib.hid hb; clear hb)
    | (go_at_call 50; (with_reducible refine (A2.out _ D.out).mono ?_); rintro e w2 ⟨rfl, hb⟩; have D := Lib.hid (D.out.trans (hb.mono D.out.size)); clear hb)
    | (go_at_call 49; (with_reducible refine (ok2' w2 0 0 true rfl).mono ?_); rintro e wo ⟨rfl, hw⟩; have s := al1 w2 (.cells #[.int .i64 0, .int .i64 0] 26); rw [hw] at s; clear hw; have D := Lib.hid (D.out.trans (s.mono D.out.size)); clear s))
  go_ret
  exact ⟨rfl, D.out⟩
end PC
end Go.Proofs.YtjplemfdhhkbaaaDoor

/-
  Package sum: one and one, pure.
-/
namespace Go.Proofs.YtjplemfdhhkbaaaDoor
set_option linter.unusedVariables false
set_option linter.unusedSimpArgs false
open Go.RowKit
set_option linter.unusedVariables false
set_option linter.unusedSimpArgs false
namespace SC
open L NC NK DC RC
/-- one and one -/
theorem one_one {O T : Int} (hO : O = 4607182418800017408) (hT : T = 4611686018427387904) : AT [O, O] 0 = (T, false, 0) := by
  have fO : fi O := fi_of (by omega) (by omega) (by omega)
  have hf := f2 fO fO
  obtain ⟨k, hk⟩ : ∃ k : Nat, k = 1022 := ⟨_, rfl⟩
  obtain ⟨j, hj⟩ : ∃ j : Nat, j = 1023 := ⟨_, rfl⟩
  have u1 := (U_of (k := k) (q := 4503599627370496) (by omega) (by omega) (by omega)).1
  have u2 := (U_of (k := j) (q := 4503599627370496) (by omega) (by omega) (by omega)).1
  rw [show (k : Int) * 4503599627370496 + 4503599627370496 = O by omega] at u1
  rw [show (j : Int) * 4503599627370496 + 4503599627370496 = T by omega] at u2
  have e : sc 1 (j - 1074) = 2 * sc 1 (k - 1074) := by
    have := sc_shift 1 (k - 1074) 1 (by omega)
    rw [show (1 : Int) * 2 ^ 1 = 2 by decide, sc_mul1, show (k : Int) - 1074 + (1 : Nat) = j - 1074 by omega] at this
    exact this.symm
  have hp := sc_one_pos (k - 1074)
  have v1 : val O = U O := by
    rw [val_eq fO, show F.sgn O = false from F.sgn_f (by omega), show O % 9223372036854775808 = O by omega]; rfl
  have hv : vs [O, O] = U T := by
    simp only [vs]
    rw [v1, u1, u2, e]
    omega
  have hn : vs [O, O] ≠ 0 := by rw [hv, u2, e]; omega
  rw [(AT_fin (by omega) (by simp) hf).2 hn]
  have t := tot_ok hf (by simp)
  rw [hv] at t
  have a := (A_abs (tot [O, O] dz)).1 (by rw [t.2, u2, e]; omega)
  have tw := tow_exact (r := T) (by omega) (by omega)
  rw [← t.2, ← a.1] at tw
  obtain ⟨x1, x2, -⟩ := TX_of t.1 (mode := 0) (by omega) tw
  rw [x1, x2, ry_none, a.2]
  unfold rx
  simp
theorem tow_bit {a r u0 u9 e0 E : Int} (h0 : U r = u0) (h9 : U (r + 1) = u9) (r0 : 0 ≤ r) (r1 : r ≤ 9218868437227405311) (ha : a = u0 + e0) (hp : 0 < e0) (h4 : 4 * e0 ≤ E) (hu : u9 = u0 + E) : Tow a r false true := by
  refine ⟨r0, r1, ?_, fun _ => ?_, ?_, ?_⟩
  · rw [h0]; clear h0 h9; omega
  · rw [h9]; clear h0 h9; omega
  · rw [h0, h9]; clear h0 h9; symm; rw [decide_eq_false_iff_not]; omega
  · rw [h0, h9]; clear h0 h9; symm; rw [decide_eq_true_iff]; constructor <;> omega
theorem one_more {O P : Int} (hO : O = 4607182418800017408) (hP : P = 4607182418800017409) : AT [O, 1] 1 = (P, true, 0) := by
  have fO : fi O := fi_of (by omega) (by omega) (by omega)
  have f1 : fi 1 := fi_of (by omega) (by omega) (by omega)
  have hf := f2 fO f1
  obtain ⟨k, hk⟩ : ∃ k : Nat, k = 1022 := ⟨_, rfl⟩
  obtain ⟨u1, u2⟩ := U_of (k := k) (q := 4503599627370496) (by omega) (by omega) (by omega)
  rw [show (k : Int) * 4503599627370496 + 4503599627370496 = O by omega] at u1 u2
  have u3 := (U_of (k := 0) (q := 1) (by omega) (by omega) (by omega)).1
  rw [show ((0 : Nat) : Int) * 4503599627370496 + 1 = 1 by omega, show ((0 : Nat) : Int) - 1074 = -1074 by omega, Int.one_mul] at u3
  have e : sc 1 (k - 1074) = 2 ^ k * sc 1 (-1074) := by
    rw [← sc_mul1, sc_two _ _ (by omega), show (-1074 : Int) + k = k - 1074 by omega]
  have e2 : (2 : Int) ^ k = 4 * 2 ^ (k - 2) := by
    rw [show (4 : Int) = 2 ^ 2 by decide, ← Int.pow_add]
    congr 1; omega
  have hp := sc_one_pos (-1074)
  have h4 : 4 * sc 1 (-1074) ≤ sc 1 (k - 1074) := by
    rw [e, e2, Int.mul_assoc]
    have h1 := two_pos' (k - 2)
    have := Int.mul_le_mul_of_nonneg_right (show (1 : Int) ≤ 2 ^ (k - 2) by omega) (Int.le_of_lt hp)
    omega
  have v1 : val O = U O := by
    rw [val_eq fO, show F.sgn O = false from F.sgn_f (by omega), show O % 9223372036854775808 = O by omega]; rfl
  have v2 : val 1 = U 1 := by
    rw [val_eq f1, show F.sgn 1 = false from F.sgn_f (by omega), show (1 : Int) % 9223372036854775808 = 1 by omega]; rfl
  have hv : vs [O, 1] = U O + sc 1 (-1074) := by
    simp only [vs]
    rw [v1, v2, u3]
    omega
  clear e e2 v1 v2 u3
  generalize sc 1 (-1074) = e0 at *
  generalize sc 1 (k - 1074) = E at *
  have hn : vs [O, 1] ≠ 0 := by rw [hv, u1]; omega
  rw [(AT_fin (by omega) (by simp) hf).2 hn]
  have t := tot_ok hf (by simp)
  rw [hv] at t
  have a := (A_abs (tot [O, 1] dz)).1 (by rw [t.2, u1]; omega)
  have eA : A (tot [O, 1] dz) = U O + e0 := a.1.trans t.2
  have tw : Tow (A (tot [O, 1] dz)) O false true := tow_bit rfl rfl (by rw [hO]; decide) (by rw [hO]; decide) eA hp h4 (by rw [u2, u1, Int.add_mul, Int.one_mul])
  obtain ⟨x1, x2, -⟩ := TX_of t.1 (mode := 1) (by omega) tw
  rw [x1, x2, a.2, hP, hO]
  unfold ry rx up
  simp
end SC
end Go.Proofs.YtjplemfdhhkbaaaDoor

/-
  Package sum: one and one, the walk.
-/
namespace Go.Proofs.YtjplemfdhhkbaaaDoor
set_option linter.unusedVariables false
set_option linter.unusedSimpArgs false
open Go.RowKit
set_option linter.unusedVariables false
set_option linter.unusedSimpArgs false
namespace SC
open L NC NK DC RC
end SC
end Go.Proofs.YtjplemfdhhkbaaaDoor

/-
  DyadRing: the walk.
-/
namespace Go.Proofs.YtjplemfdhhkbaaaDoor
set_option linter.unusedVariables false
set_option linter.unusedSimpArgs false
open Go.RowKit
set_option linter.unusedVariables false
namespace DC
open L NC NK
open Z (Nz Tz cmpv)
theorem ok2 (W : World) (x1 x2 : Int) (o : Bool) (ho : [x1, x2].all (· == 0) = o) : Calls Tryd.prog 49 #[.slice (some ⟨W.heap.size, 0, none⟩) 2 2] (W.alloc (.cells #[.int .i64 x1, .int .i64 x2] 26)) fun e w' => e = .returned (.bool o) ∧ W.alloc (.cells #[.int .i64 x1, .int .i64 x2] 26) = w' := by
  have h1 := ok_lit W [x1, x2] (by simp)
  rw [ho] at h1
  exact h1
theorem ok2a (W : World) (ob : Obj) (x1 x2 : Int) (o : Bool) (ho : [x1, x2].all (· == 0) = o) : Calls Tryd.prog 49 #[.slice (some ⟨W.heap.size + 1, 0, none⟩) 2 2] ((W.alloc ob).alloc (.cells #[.int .i64 x1, .int .i64 x2] 26)) fun e w' => e = .returned (.bool o) ∧ (W.alloc ob).alloc (.cells #[.int .i64 x1, .int .i64 x2] 26) = w' := by
  have h := ok2 (W.alloc ob) x1 x2 o ho
  rw [show (W.alloc ob).heap.size = W.heap.size + 1 by simp] at h
  exact h
theorem ok4a (W : World) (ob : Obj) (x1 x2 x3 x4 : Int) (o : Bool) (ho : [x1, x2, x3, x4].all (· == 0) = o) : Calls Tryd.prog 49 #[.slice (some ⟨W.heap.size + 1, 0, none⟩) 4 4] ((W.alloc ob).alloc (.cells #[.int .i64 x1, .int .i64 x2, .int .i64 x3, .int .i64 x4] 26)) fun e w' => e = .returned (.bool o) ∧ (W.alloc ob).alloc (.cells #[.int .i64 x1, .int .i64 x2, .int .i64 x3, .int .i64 x4] 26) = w' := by
  have h := ok4 (W.alloc ob) x1 x2 x3 x4 o ho
  rw [show (W.alloc ob).heap.size = W.heap.size + 1 by simp] at h
  exact h
theorem ok5a (W : World) (ob : Obj) (x1 x2 x3 x4 x5 : Int) (o : Bool) (ho : [x1, x2, x3, x4, x5].all (· == 0) = o) : Calls Tryd.prog 49 #[.slice (some ⟨W.heap.size + 1, 0, none⟩) 5 5] ((W.alloc ob).alloc (.cells #[.int .i64 x1, .int .i64 x2, .int .i64 x3, .int .i64 x4, .int .i64 x5] 26)) fun e w' => e = .returned (.bool o) ∧ (W.alloc ob).alloc (.cells #[.int .i64 x1, .int .i64 x2, .int .i64 x3, .int .i64 x4, .int .i64 x5] 26) = w' := by
  have h := ok5 (W.alloc ob) x1 x2 x3 x4 x5 o ho
  rw [show (W.alloc ob).heap.size = W.heap.size + 1 by simp] at h
  exact h
theorem all4 {x1 x2 x3 x4 : Int} (h : [x1, x2, x3, x4].all (· == 0) = true) : x1 = 0 ∧ x2 = 0 ∧ x3 = 0 ∧ x4 = 0 := by
  simpa [List.all_cons, Bool.and_eq_true] using h
theorem all5 {x1 x2 x3 x4 x5 : Int} (h : [x1, x2, x3, x4, x5].all (· == 0) = true) : x1 = 0 ∧ x2 = 0 ∧ x3 = 0 ∧ x4 = 0 ∧ x5 = 0 := by
  simpa [List.all_cons, Bool.and_eq_true] using h
theorem beq_iff {x y : Int} (h : x = 0 ↔ y = 0) : ∃ t, (x == 0) = t ∧ (y == 0) = t := by
  refine ⟨y == 0, ?_, rfl⟩
  by_cases hy : y = 0
  · simp [hy, h.2 hy]
  · have : x ≠ 0 := fun hx => hy (h.1 hx)
    rw [beq_eq_false_iff_ne.2 this, beq_eq_false_iff_ne.2 hy]
end DC
end Go.Proofs.YtjplemfdhhkbaaaDoor

/-
  DyadOrder: the walk.
-/
namespace Go.Proofs.YtjplemfdhhkbaaaDoor
set_option linter.unusedVariables false
set_option linter.unusedSimpArgs false
open Go.RowKit
set_option linter.unusedVariables false
namespace DC
open L NC NK
open Z (Nz Tz cmpv)
theorem cmpn_S {a b : Dy} (ha : Ok a) (hb : Ok b) : Cmpn a b = cmpv (S a) (S b) := by
  unfold Cmpn
  rw [if_neg (by rw [ha.1, hb.1]; decide)]
  have x1 := ha.2.2.2.2.1
  have x2 := hb.2.2.2.2.1
  have e1 := sc_lv2 a b (by omega)
  have e2 := sc_lv2 b a (by omega)
  rw [Int.min_comm b.x a.x] at e2
  unfold S
  rw [← e1, ← e2]
  rcases Int.lt_trichotomy (lv2 a b) (lv2 b a) with h | h | h
  · rw [Z.cmpv_lt h, Z.cmpv_lt (sc_lt.2 h)]
  · rw [Z.cmpv_eq h, Z.cmpv_eq (by rw [h])]
  · rw [Z.cmpv_gt h, Z.cmpv_gt (sc_lt.2 h)]
theorem cmpe_0 {a b : Dy} (ha : Ok a) (hb : Ok b) : Cmpe a b = 0 := by unfold Cmpe; rw [ha.1, hb.1]; rfl
theorem cmpv_3 (x y : Int) : (cmpv x y = -1 ∧ x < y) ∨ (cmpv x y = 0 ∧ x = y) ∨ (cmpv x y = 1 ∧ y < x) := by
  rcases Int.lt_trichotomy x y with h | h | h
  · exact .inl ⟨Z.cmpv_lt h, h⟩
  · exact .inr (.inl ⟨Z.cmpv_eq h, h⟩)
  · exact .inr (.inr ⟨Z.cmpv_gt h, h⟩)
/-- what the order is to say -/
structure Ord (v12 v21 v23 v13 : Int) (t : Bool) : Prop where
  w : IntKind.i64.wrap (-v21) = -v21
  a : (v12 != -v21) = false
  e : (v12 == 0) = t
  c : ¬ v12 ≤ 0 ∨ (v12 ≤ 0 ∧ ¬ v23 ≤ 0) ∨ (v12 ≤ 0 ∧ v23 ≤ 0 ∧ ¬ 0 < v13)
theorem ord_d {a b c : Dy} (ha : Ok a) (hb : Ok b) (hc : Ok c) : Ord (Cmpn a b) (Cmpn b a) (Cmpn b c) (Cmpn a c) (decide (a.m = b.m ∧ a.x = b.x)) := by
  rw [cmpn_S ha hb, cmpn_S hb ha, cmpn_S hb hc, cmpn_S ha hc]
  have he : (a.m = b.m ∧ a.x = b.x) ↔ S a = S b := by
    constructor
    · intro h; unfold S; rw [h.1, h.2]
    · intro h; rw [S_inj ha hb h]; exact ⟨rfl, rfl⟩
  have hd : decide (a.m = b.m ∧ a.x = b.x) = decide (S a = S b) := decide_eq_decide.2 he
  rw [hd]
  generalize S a = x
  generalize S b = y
  generalize S c = z
  have h1 := cmpv_3 x y
  have h2 := cmpv_3 y x
  have h3 := cmpv_3 y z
  have h4 := cmpv_3 x z
  refine ⟨IntWalk.i64_in _ (by omega), by rw [bne_eq_false_iff_eq]; omega, ?_, by omega⟩
  by_cases h : x = y
  · have : cmpv x y = 0 := by omega
    rw [this, decide_eq_true h]; rfl
  · have : cmpv x y ≠ 0 := by omega
    rw [decide_eq_false h, beq_eq_false_iff_ne.2 this]
theorem cmp_add {a b c : Dy} (ha : Ok a) (hb : Ok b) (hc : Ok c) (h1 : (Add a c).e = 0) (h2 : (Add b c).e = 0) : Cmpn (Add a c).d (Add b c).d = Cmpn a b := by
  rw [cmpn_S (add_good _ _) (add_good _ _), cmpn_S ha hb, (add_ok h1 (fun _ => ha) (fun _ => hc)).2.2, (add_ok h2 (fun _ => hb) (fun _ => hc)).2.2]
  have h1 := cmpv_3 (S a + S c) (S b + S c)
  have h2 := cmpv_3 (S a) (S b)
  omega
end DC
end Go.Proofs.YtjplemfdhhkbaaaDoor

/-
  RoundSame, RoundOrder: the walks.
-/
namespace Go.Proofs.YtjplemfdhhkbaaaDoor
set_option linter.unusedVariables false
set_option linter.unusedSimpArgs false
open Go.RowKit
set_option linter.unusedVariables false
set_option linter.unusedSimpArgs false
namespace RC
open L NC NK DC
open Z (Nz Tz cmpv)
end RC
end Go.Proofs.YtjplemfdhhkbaaaDoor

