/-
  OrderSorts: the walk.
-/
import Derived.Test.YtlcelocjfmclkaaB12
import Derived.Test.YtlcelocjfmclkaaA8
namespace Go.Proofs.Ytlcelocjfmclkaa
open Go.RowKit
set_option linter.unusedVariables false
set_option linter.unusedSimpArgs false
namespace BC
open AC
/-- a slice of the call's own, in another block than the one that was written -/
theorem OwnQ.far {w w' : World} {base g n c : Nat} {A : Option Addr} {X : List Int} (h : OwnQ w base (.slice A n c) X) (hg : w.grownBy w' (some g)) (hne : g < base) : OwnQ w' base (.slice A n c) X := by
  refine ⟨h.1, h.2.imp id fun ⟨g', c', cur, e, hb, hk, r⟩ => ⟨g', c', cur, e, hb, ?_, r⟩⟩
  rw [hg.block g' (Array.getElem?_eq_some_iff.1 hk).1 (by intro e; injection e; omega)]
  exact hk
theorem OwnQ.near {w w' : World} {base g n c : Nat} {A : Option Addr} {X : List Int} (h : OwnQ w base (.slice A n c) X) (hg : w.grownBy w' (some g)) (hne : ∀ g', (Value.slice A n c).ownBlock = some g' → g' < g) : OwnQ w' base (.slice A n c) X := by
  refine ⟨h.1, h.2.imp id fun ⟨g', c', cur, e, hb, hk, r⟩ => ⟨g', c', cur, e, hb, ?_, r⟩⟩
  have := hne g' (by rw [e]; rfl)
  rw [hg.block g' (Array.getElem?_eq_some_iff.1 hk).1 (by intro e; injection e; omega)]
  exact hk
theorem OwnQ.form2 {w : World} {base n c : Nat} {A : Option Addr} {X : List Int} (h : OwnQ w base (.slice A n c) X) : (A = none ∧ n = 0 ∧ c = 0) ∨ ∃ g, A = some ⟨g, 0, none⟩ := by
  rcases h.2 with ⟨e, h0⟩ | ⟨g', c', cur, e, _⟩
  · injection e with e1 e2 e3
    exact .inl ⟨e1, e2, e3⟩
  · injection e with e1 e2 e3
    exact .inr ⟨g', e1⟩
/-- slices.Sort of a slice of the call's own, nil or not -/
theorem SortA_c (base n c : Nat) (A : Option Addr) (L : List Int) (w : World) (h : OwnQ w base (.slice A n c) L) (hl : L.length < 4611686018427387904) :
    Calls Try.prog 23 #[.slice A n c] w fun e w' => e = .returned (.tuple #[]) ∧ OwnQ w' base (.slice A n c) (srt L) ∧ (w' = w ∨ ∃ g, A = some ⟨g, 0, none⟩ ∧ w.grownBy w' (some g)) := by
  rcases OwnQ.form2 h with ⟨rfl, rfl, rfl⟩ | ⟨g, rfl⟩
  · obtain rfl : L = [] := List.eq_nil_of_length_eq_zero (Own.sl h).len_.1.symm
    refine (SortNil_c w).mono ?_
    rintro e w' ⟨rfl, rfl⟩
    have e : srt [] = [] := by unfold srt; simp
    exact ⟨rfl, by rw [e]; exact h, .inl rfl⟩
  · refine (SortQ_c base g n c L w h hl).mono ?_
    rintro e w' ⟨rfl, hg, hO⟩
    exact ⟨rfl, hO, .inr ⟨g, rfl, hg⟩⟩
/-- one step of the sorted list -/
theorem step_ok {L : List Int} (hu : u64s L) (k : Nat) (hk : k + 1 < L.length) (x y : Int) (hx : (A.insAll L).getD k 0 = x) (hy : (A.insAll L).getD (k + 1) 0 = y) :
    (0 ≤ x ∧ x ≤ 18446744073709551615) ∧ (0 ≤ y ∧ y ≤ 18446744073709551615) ∧ ¬ 0 < A.tot x y ∧ (A.has x y = true → ¬ 0 < A.cmpn x y) := by
  have hS := (A.insAll_ok L).1
  have hl := insAll_len L
  rw [List.getD_eq_getElem?_getD, List.getElem?_eq_getElem (by omega)] at hx hy
  simp only [Option.getD_some] at hx hy
  have ux := A.mem_u64 (A.insAll_ok L).2 hu x (by rw [← hx]; exact List.getElem_mem _)
  have uy := A.mem_u64 (A.insAll_ok L).2 hu y (by rw [← hy]; exact List.getElem_mem _)
  have hkey : A.key x ≤ A.key y := by
    unfold A.Srt at hS
    rw [List.pairwise_iff_getElem] at hS
    have := hS k (k + 1) (by omega) (by omega) (by omega)
    rwa [hx, hy] at this
  refine ⟨ux, uy, ?_, fun hh => ?_⟩
  · unfold A.tot
    rcases A.ct_3 (A.key x) (A.key y) with ⟨h, e⟩ | ⟨h, e⟩ | ⟨h, e⟩ <;> rw [e] <;> omega
  · have hnn : (A.nan x || A.nan y) = false := by
      unfold A.has at hh
      cases hb : (A.nan x || A.nan y)
      · rfl
      · rw [hb] at hh; cases hh
    have hn2 := hnn
    rw [Bool.or_eq_false_iff, A.nan_no, A.nan_no] at hn2
    unfold F.nn at hn2
    have e1 : A.cmpn x y = A.ct (F.rnk x) (F.rnk y) := by unfold A.cmpn; rw [hnn]; rfl
    rw [e1]
    have hr : ¬ F.rnk y < F.rnk x := by
      intro h
      unfold A.key at hkey
      unfold F.rnk at h
      revert h hkey
      (repeat' split) <;> omega
    rcases A.ct_3 (F.rnk x) (F.rnk y) with ⟨h, e⟩ | ⟨h, e⟩ | ⟨h, e⟩ <;> rw [e] <;> omega
set_option maxRecDepth 100000 in
set_option maxHeartbeats 8000000 in
theorem sorts_c (A0 : Option Addr) (n c : Nat) (L : List Int) (w : World) (hs : Sl .u64 w (.slice A0 n c) L) (hu : u64s L) (hA : (A0 = none ∧ n = 0 ∧ c = 0) ∨ ∃ ad, A0 = some ad) (hl : L.length * 8 ≤ 140737488351232) :
    Calls Try.prog 7 #[.slice A0 n c] w fun e w' => e = .returned (.bool true) ∧ Below w.heap.size w w' := by
  have hn := hs.len_.1
  have HU := Lib.hid hu
  have HN := Lib.hid hn
  have HL : Hid (L.length * 8 ≤ 140737488351232 ∧ (A.insAll L).length = L.length) := ⟨hl, insAll_len L⟩
  have HS : Hid (∀ W : World, Below w.heap.size w W → Sl .u64 W (.slice A0 n c) L) := fun W hW => hs.below hW
  have HA := Lib.hid hA
  have SO := Lib.hid (Sort_c A0 n c L w hs hu hl)
  have D0 := Lib.hid (Below.refl w.heap.size w)
  have EP : Hid (srt (A.insAll L) = srt L) := srt_perm (A.insAll_ok L).2
  have hn8 : (n : Int) * 8 ≤ 140737488351232 := by omega
  clear hs hu hl hA hn
  go_enter Try.func7, Try.ntmps7
  go_upto_region 2 with (go_at_call 15; (with_reducible refine SO.out.mono ?_); rintro e w1 ⟨As, cs, rfl, hS, hD⟩; have S1 := Lib.hid hS; have D1 := Lib.hid hD; clear hS hD)
  obtain ⟨ns, hns⟩ : ∃ ns, ns = (A.insAll L).length := ⟨_, rfl⟩
  rw [← hns] at S1 ⊢
  have HNS : Hid (ns = (A.insAll L).length ∧ ns = n) := ⟨hns, by rw [hns, insAll_len]; exact HN.out.symm⟩
  have C1 := Lib.hid (Clone_any A0 n c L w1 (HS.out w1 D1.out) HA.out HL.out.1)
  have C2 : Hid (∀ W, Below w1.heap.size w1 W → Calls Try.prog 22 #[.slice As ns cs] W (RetC W (A.insAll L))) := fun W hW =>
    Clone_any As ns cs (A.insAll L) W ((Own.sl S1.out).below hW) ((OwnQ.form2 S1.out).imp id fun ⟨g, e⟩ => ⟨_, e⟩) (by rw [HL.out.2]; exact HL.out.1)
  clear hns SO
  go_upto_region 3 with (first
    | (go_at_call 22; (with_reducible refine C1.out.mono ?_); rintro e w2 ⟨Aa, ca, rfl, hOa, _, hDa⟩; have Oa := Lib.hid hOa; have Da := Lib.hid hDa; clear hOa hDa)
    | (go_at_call 22; (with_reducible refine (C2.out _ Da.out).mono ?_); rintro e w3 ⟨Ab, cb, rfl, hOb, _, hDb⟩; have Ob := Lib.hid hOb; have Db := Lib.hid hDb; clear hOb hDb))
  obtain ⟨na, hna⟩ : ∃ na, na = L.length := ⟨_, rfl⟩
  rw [← HNS.out.1] at Ob ⊢
  rw [← hna] at Oa ⊢
  have BL : Hid (L.length < 4611686018427387904 ∧ (A.insAll L).length < 4611686018427387904 ∧ na ≤ 4611686018427387904 ∧ ns ≤ 4611686018427387904) := by
    have h1 := HL.out
    have h2 := HNS.out.1
    unfold Hid; omega
  have oa3 : OwnQ w3 w1.heap.size (.slice Aa na ca) L := Own.below' Oa.out Db.out
  have os3 : OwnQ w3 w.heap.size (.slice As ns cs) (A.insAll L) := Own.below' (Own.below' S1.out Da.out) Db.out
  have d3 : Below w.heap.size w w3 := (D1.out.trans (Da.out.mono D1.out.size)).trans (Db.out.mono (Nat.le_trans D1.out.size Da.out.size))
  have SA := Lib.hid (SortA_c w1.heap.size na ca Aa L w3 oa3 BL.out.1)
  have K4 : Hid (∀ W, (W = w3 ∨ ∃ g, Aa = some ⟨g, 0, none⟩ ∧ w3.grownBy W (some g)) → OwnQ W w.heap.size (.slice As ns cs) (A.insAll L) ∧ OwnQ W w2.heap.size (.slice Ab ns cb) (A.insAll L) ∧ Below w.heap.size w W) := fun W hW => by
    rcases hW with rfl | ⟨g, rfl, hg⟩
    · exact ⟨os3, Ob.out, d3⟩
    · have lg := Own.lt oa3 g rfl
      have lg2 := Own.lt Oa.out g rfl
      exact ⟨OwnQ.near os3 hg (fun g' e => by have := (Own.lt S1.out g' e).2; omega), OwnQ.far Ob.out hg lg2.2, d3.grown hg d3.size (fun k hk => by injection hk with hk; have := D1.out.size; omega)⟩
  have L2 : Hid (w1.heap.size ≤ w2.heap.size ∧ ∀ g, Aa = some ⟨g, 0, none⟩ → g < w2.heap.size) := ⟨Da.out.size, fun g e => by subst e; exact (Own.lt Oa.out g rfl).2⟩
  have B1 : Hid (w.heap.size ≤ w1.heap.size) := D1.out.size
  have LS : Hid (∀ g', (Value.slice As ns cs).ownBlock = some g' → g' < w1.heap.size) := fun g' e => (Own.lt S1.out g' e).2
  clear hna oa3 os3 d3 Oa Ob S1 D1 Da Db C1 C2 HS
  go_upto_region 4 with (go_at_call 23; (with_reducible refine SA.out.mono ?_); rintro e w4 ⟨rfl, hOa, hG⟩; have Oa := Lib.hid hOa; have F4 := Lib.hid (K4.out _ hG); clear hOa hG)
  have SB := Lib.hid (SortA_c w2.heap.size ns cb Ab (A.insAll L) w4 F4.out.2.1 BL.out.2.1)
  have K5 : Hid (∀ W, (W = w4 ∨ ∃ g, Ab = some ⟨g, 0, none⟩ ∧ w4.grownBy W (some g)) → OwnQ W w.heap.size (.slice As ns cs) (A.insAll L) ∧ OwnQ W w1.heap.size (.slice Aa na ca) (srt L) ∧ Below w.heap.size w W) := fun W hW => by
    rcases hW with rfl | ⟨g, rfl, hg⟩
    · exact ⟨F4.out.1, Oa.out, F4.out.2.2⟩
    · have lg := Own.lt F4.out.2.1 g rfl
      have b1 := B1.out
      have b2 := L2.out.1
      refine ⟨OwnQ.near F4.out.1 hg (fun g' e => ?_), OwnQ.near Oa.out hg (fun g' e => ?_), F4.out.2.2.grown hg F4.out.2.2.size (fun k hk => by injection hk with hk; omega)⟩
      · have := LS.out g' e; omega
      · rcases OwnQ.form2 Oa.out with ⟨h, _⟩ | ⟨g2, h⟩
        · subst h; cases e
        · have := L2.out.2 g2 h
          subst h
          have e2 : g2 = g' := by simpa [Value.ownBlock] using e
          have lw := lg.1
          omega
  have FS : Hid (∀ W, Below w.heap.size w W → Calls Try.prog 19 #[] W fun e w' => e = .returned (.bool true) ∧ W = w') := fun W _ => lives_c W
  clear SA K4
  go_upto_region 5 with (go_at_call 23; (with_reducible refine SB.out.mono ?_); rintro e w5 ⟨rfl, hOb, hG⟩; have Ob := Lib.hid hOb; have F5 := Lib.hid (K5.out _ hG); clear hOb hG)
  clear SB K5 F4 Oa
  have EQ : Hid (∀ q, Calls Try.prog 14 #[.slice Aa na ca, .slice Ab ns cb] (w5.drewN q) (NC.RetQ (w5.drewN q) (.bool true))) := fun q => by
    have h1 := (Own.sl F5.out.2.1).drewN q
    have h2 := (Own.sl Ob.out).drewN q
    have := Equal64_c _ _ _ _ _ h1 h2 (by rw [srt_len]; have := BL.out; omega) (by rw [srt_len]; have := BL.out; omega)
    rw [EP.out, show decide (srt L = srt L) = true by simp] at this
    exact this
  have CS : Hid (∀ q j, j < ns → ∃ ad, As = some ad ∧ (w5.drewN q).cell? (ad.add j) = some (.int .u64 ((A.insAll L).getD j 0))) := fun q j hj => by
    obtain ⟨A', c', e, _, h⟩ := ((Own.sl F5.out.1).drewN q).open_
    injection e with e1 e2 e3
    subst e1
    obtain ⟨ad, h1, _, h2⟩ := h j (by rw [← HNS.out.1]; exact hj)
    exact ⟨ad, h1, h2⟩
  have ns63 : (ns : Int) ≤ 4611686018427387904 := by have := BL.out.2.2.2; omega
  go_wp2
  go_loopw [6] (fun s wr => ∃ (k q : Nat), s = .int .i64 k ∧ 1 ≤ k ∧ Hid (wr = w5.drewN q)) (fun s _ => ns - (Go.Proofs.intOf s).toNat)
  case atStart => exact ⟨1, 0, rfl, Nat.le_refl _, rfl⟩
  case round =>
    obtain ⟨k, q, rfl, hk1, hw⟩ := hrel
    by_cases hkn : k < ns
    · have hknz : (k : Int) < (ns : Int) := by omega
      obtain ⟨km, rfl⟩ : ∃ km, k = km + 1 := ⟨k - 1, by omega⟩
      obtain ⟨k, hk⟩ : ∃ k, k = km + 1 := ⟨_, rfl⟩
      obtain ⟨x, hx⟩ : ∃ x, (A.insAll L).getD km 0 = x := ⟨_, rfl⟩
      obtain ⟨y, hy⟩ : ∃ y, (A.insAll L).getD (km + 1) 0 = y := ⟨_, rfl⟩
      obtain ⟨⟨x0, x1⟩, ⟨y0, y1⟩, hT, hC⟩ := step_ok HU.out km (by have := HNS.out; have := HL.out; omega) x y hx hy
      have CX : Hid (∀ q, ∃ ad, As = some ad ∧ (w5.drewN q).cell? (ad.add km) = some (.int .u64 x) ∧ (w5.drewN q).cell? (ad.add k) = some (.int .u64 y)) := fun q => by
        obtain ⟨ad, e, h1⟩ := CS.out q km (by omega)
        obtain ⟨ad', e', h2⟩ := CS.out q (km + 1) (by omega)
        have : ad = ad' := by rw [e] at e'; injection e'
        subst this
        exact ⟨ad, e, by rw [h1, hx], by rw [hk, h2, hy]⟩
      rw [← hk] at hkn hknz hk1 ⊢
      have z1 : (k : Int) - 1 = (km : Int) := by omega
      have v1 : IntKind.i64.wrap (km : Int) = km := by rw [IntKind.wrap_i64]; omega
      have hkm : km < ns := by omega
      obtain ⟨t, ht⟩ : ∃ t, t = A.tot x y := ⟨_, rfl⟩
      rw [← ht] at hT
      have T1 : Hid (∀ W, Calls Try.prog 13 #[.int .u64 x, .int .u64 y] W fun e w' => e = .returned (.int .i64 t) ∧ w' = W) := fun W => by
        rw [ht]; exact (Total_c x y x0 x1 y0 y1 W).mono fun _ _ h => ⟨h.1, h.2.symm⟩
      obtain ⟨m, hm⟩ : ∃ m, m = A.cmpn x y := ⟨_, rfl⟩
      obtain ⟨b, hb⟩ : ∃ b, b = A.has x y := ⟨_, rfl⟩
      rw [← hm, ← hb] at hC
      have T2 : Hid (∀ W, Calls Try.prog 8 #[.int .u64 x, .int .u64 y] W fun e w' => e = .returned (.tuple #[.int .i64 m, .bool b]) ∧ w' = W) := fun W => by
        rw [hm, hb]; exact (Cmp_c x y x0 x1 y0 y1 W).mono fun _ _ h => ⟨h.1, h.2.symm⟩
      obtain ⟨ad, rfl, c1, c2⟩ := CX.out q
      rw [← hw.out] at c1 c2
      clear hx hy ht hm hb hk
      go_wp2
      go_quiet (first | (go_at_call 13; refine Calls.quiet_of_same (T1.out _)))
      obtain ⟨w6, hw6⟩ : ∃ w6, w6 = wr.drewN nq := ⟨_, rfl⟩
      rw [← hw6]
      have HW6 : Hid (w6 = w5.drewN (q + nq)) := by unfold Hid; rw [hw6, hw.out, World.drewN_drewN]
      obtain ⟨ad', e', c3, c4⟩ := CX.out (q + nq)
      injection e' with e'
      subst e'
      rw [← HW6.out] at c3 c4
      clear c1 c2 hw6
      go_wp2
      cases b
      · go_quiet (first | (go_at_call 8; refine Calls.quiet_of_same (T2.out _)))
        obtain ⟨w7, hw7⟩ : ∃ w7, w7 = w6.drewN nq := ⟨_, rfl⟩
        rw [← hw7]
        have HW7 : Hid (∃ q, w7 = w5.drewN q) := by unfold Hid; rw [hw7, HW6.out, World.drewN_drewN]; exact ⟨_, rfl⟩
        clear hw7
        go_wp2
        obtain ⟨q8, e8⟩ := HW7.out
        exact ⟨⟨k + 1, q8, by go_num, by omega, e8⟩, by simp [Go.Proofs.intOf] <;> omega⟩
      · have hm0 : ¬ 0 < m := by have := hC (by first | trivial | rfl); omega
        clear hC
        go_quiet (first | (go_at_call 8; refine Calls.quiet_of_same (T2.out _)))
        obtain ⟨w7, hw7⟩ : ∃ w7, w7 = w6.drewN nq := ⟨_, rfl⟩
        rw [← hw7]
        have HW7 : Hid (∃ q, w7 = w5.drewN q) := by unfold Hid; rw [hw7, HW6.out, World.drewN_drewN]; exact ⟨_, rfl⟩
        clear hw7
        go_wp2
        obtain ⟨q8, e8⟩ := HW7.out
        exact ⟨⟨k + 1, q8, by go_num, by omega, e8⟩, by simp [Go.Proofs.intOf] <;> omega⟩
    · have hknz : ¬ (k : Int) < (ns : Int) := by omega
      have EQ2 := EQ.out q
      rw [← hw.out] at EQ2
      have EQ3 := Lib.hid EQ2
      have BB : Hid (Below w.heap.size w wr) := by rw [hw.out]; have := F5.out.2.2; exact ⟨this.os, this.tape, this.output, this.size, this.block⟩
      clear EQ2
      go_wp2_with (first
        | (go_at_call 19; (with_reducible refine (FS.out _ BB.out).mono ?_); rintro e w7 ⟨rfl, rfl⟩)
        | (go_at_call 14; (with_reducible refine EQ3.out.mono ?_); rintro e w7 ⟨rfl, q7, rfl⟩))
      go_ret
      have := BB.out
      exact ⟨rfl, ⟨this.os, this.tape, this.output, this.size, this.block⟩⟩
end BC
end Go.Proofs.Ytlcelocjfmclkaa
