/-
  SumOnce: the walk.
-/
import Derived.Test.YtcendlgbcnpfcaaDoorU10
import Derived.Test.YtcendlgbcnpfcaaDoorS6
namespace Go.Proofs.YtcendlgbcnpfcaaDoor
set_option linter.unusedVariables false
set_option linter.unusedSimpArgs false
open Go.RowKit
set_option linter.unusedVariables false
set_option linter.unusedSimpArgs false
namespace SC
open L NC NK DC RC
theorem row_q {w : World} {a : Option Addr} {n c : Nat} {zs : List Int}
    (h : (a = none ∧ n = 0 ∧ c = 0 ∧ zs = []) ∨ ∃ x, a = some x ∧ n ≤ c ∧ c ≤ maxLen ∧ zs.length = c ∧ (∀ i, i < zs.length → w.cell? (x.add i) = some (.int .u64 (zs.getD i 0))) ∧ ∀ n ∈ zs, (Lit.int .u64 n).wf = true) :
    Sl .u64 w (.slice a n c) (zs.take n) ∧ u64s (zs.take n) ∧ (zs.take n).length = n ∧ ((a = none ∧ n = 0 ∧ c = 0) ∨ ∃ ad, a = some ad) := by
  rcases h with ⟨rfl, rfl, rfl, rfl⟩ | ⟨x, rfl, hn, hc, hz, hcell, hwf⟩
  · exact ⟨Sl.nil _ _ _ _, (by intro x hx; simp at hx), by simp, .inl ⟨rfl, rfl, rfl⟩⟩
  · have hl : (zs.take n).length = n := by rw [List.length_take, hz]; exact Nat.min_eq_left hn
    refine ⟨⟨some x, c, by rw [hl], by rw [hl]; exact hn, ?_⟩, fun d hd => wfb_u64 (hwf d (List.mem_of_mem_take hd)), hl, .inr ⟨x, rfl⟩⟩
    by_cases h0 : n = 0
    · left; subst h0; simp
    · right
      refine ⟨x, rfl, ?_, fun j hj => ?_⟩
      · have := World.block_lt_of_cell? w _ (hcell 0 (by omega))
        rwa [block_of_add] at this
      · rw [hl] at hj
        rw [hcell j (by omega), List.getElem_take, List.getD_eq_getElem?_getD, List.getElem?_eq_getElem (by omega)]; rfl
theorem Clone_any (A : Option Addr) (n c : Nat) (l : List Int) (w : World) (hs : Sl .u64 w (.slice A n c) l) (hA : (A = none ∧ n = 0 ∧ c = 0) ∨ ∃ ad, A = some ad) (hl : l.length * 8 ≤ 140737488351232) : Calls Tryd.prog 61 #[.slice A n c] w (RetC w l) := by
  rcases hA with ⟨rfl, rfl, rfl⟩ | ⟨ad, rfl⟩
  · have := hs.len_.1
    obtain rfl := List.eq_nil_of_length_eq_zero this.symm
    exact Clone_nil w
  · exact Clone_some ad n c l w hs hl
theorem Reverse_any (A : Option Addr) (n c B : Nat) (l : List Int) (w : World) (hO : OwnQ w B (.slice A n c) l) (hA : A = none ∧ c = 0 ∨ ∃ g, A = some ⟨g, 0, none⟩) (hl : l.length * 8 ≤ 140737488351232) (hB : B ≤ w.heap.size) :
    Calls Tryd.prog 62 #[.slice A n c] w fun e w' => e = .returned (.tuple #[]) ∧ OwnQ w' B (.slice A n c) l.reverse ∧ Below B w w' := by
  rcases hA with ⟨rfl, rfl⟩ | ⟨g, rfl⟩
  · have hn : n = 0 := by have := (Own.sl hO).len_; omega
    subst hn
    have hl0 : l = [] := List.eq_nil_of_length_eq_zero (Own.sl hO).len_.1.symm
    subst hl0
    refine (Reverse_nil w).mono ?_
    rintro e w' ⟨rfl, rfl⟩
    exact ⟨rfl, hO, Below.refl _ _⟩
  · refine (Reverse_q B g n c l w hO hl).mono ?_
    rintro e w' ⟨rfl, hg, hO'⟩
    refine ⟨rfl, hO', (Below.refl _ _).grown hg hB fun k hk => ?_⟩
    injection hk with hk
    subst hk
    exact (Own.lt hO g rfl).1
theorem OfD_e5 {x : Int} (h : (OfD x).e = 0) : F.exq x ≠ 2047 := fun h2 => by
  unfold OfD at h; rw [if_pos h2] at h; cases h
set_option maxRecDepth 100000 in
set_option maxHeartbeats 8000000 in
theorem once_c (A : Option Addr) (n c : Nat) (L : List Int) (x mode : Int) (w : World) (hs : Sl .u64 w (.slice A n c) L) (hu : u64s L) (hA : (A = none ∧ n = 0 ∧ c = 0) ∨ ∃ ad, A = some ad) (hl : L.length * 8 ≤ 140737488351232) (hx : 0 ≤ x ∧ x ≤ 18446744073709551615) (hT : TabD w) :
    Calls Tryd.prog 13 #[.slice A n c, .int .u64 x, .int .i64 mode] w fun e w' => e = .returned (.bool true) ∧ Below w.heap.size w w' := by
  have HT : Hid (∀ W : World, Below w.heap.size w W → TabD W) := fun W hW => hT.below hW
  have LV : Hid (∀ W : World, Below w.heap.size w W → Calls Tryd.prog 55 #[] W fun e w' => e = .returned (.bool true) ∧ Below W.heap.size W w') := fun W hW => lives_c W (HT.out W hW)
  have D := Lib.hid (Below.refl w.heap.size w)
  have HS : Hid (∀ W : World, Below w.heap.size w W → Sl .u64 W (.slice A n c) L) := fun W hW => hs.below hW
  have hn := hs.len_.1
  obtain ⟨r, hr⟩ : ∃ r, AT L mode = r := ⟨_, rfl⟩
  have AL : Hid (∀ (W : World) (A : Option Addr) (n c : Nat) (M : List Int) (t : Int × Bool × Int), AT M mode = t → Sl .u64 W (.slice A n c) M → u64s M → M.length ≤ 9223372036854775807 → Below w.heap.size w W → Calls Tryd.prog 53 #[.slice A n c, .int .i64 mode] W (DC.RetB W (.tuple #[.int .u64 t.1, .bool t.2.1, .int .i64 t.2.2]))) := fun W A n c M t ht h1 h2 h3 hW => by
    have := All_c A n c M mode W h1 h2 h3 (HT.out W hW)
    rw [ht] at this
    exact this
  have CL : Hid (∀ W : World, Below w.heap.size w W → Calls Tryd.prog 61 #[.slice A n c] W (RetC W L)) := fun W hW => Clone_any A n c L W (hs.below hW) hA hl
  have RV : Hid (∀ (W : World) (A : Option Addr) (n c B : Nat), OwnQ W B (.slice A n c) L → (A = none ∧ c = 0 ∨ ∃ g, A = some ⟨g, 0, none⟩) → B ≤ W.heap.size → Calls Tryd.prog 62 #[.slice A n c] W fun e w' => e = .returned (.tuple #[]) ∧ OwnQ w' B (.slice A n c) L.reverse ∧ Below B W w') := fun W A n c B h1 h2 h3 => Reverse_any A n c B L W h1 h2 hl h3
  have VX : Hid (∀ W : World, Below w.heap.size w W → Calls Tryd.prog 59 #[.int .u64 x] W (RetVb W (OfD x).d ((OfD x).e == 0))) := fun W hW => value_c x W hx.1 hx.2 (HT.out W hW)
  have NG : Hid (∀ W : World, Calls Tryd.prog 58 #[.int .u64 x] W fun e w' => e = .returned (.int .u64 (F.neg x)) ∧ W = w') := fun W => FloatC.Neg_c x hx.1 hx.2 W
  have U1 := Lib.hid hu
  have U2 := Lib.hid (u64s_rev hu)
  have K1 : Hid (L.length ≤ 9223372036854775807) := by show _ ≤ _; omega
  have K2 : Hid (L.reverse.length ≤ 9223372036854775807) := by show _ ≤ _; rw [List.length_reverse]; omega
  have R1 := Lib.hid hr
  have R2 : Hid (AT L.reverse mode = r) := (AT_rev mode hu).trans hr
  obtain ⟨p, hp⟩ : ∃ p, ((OfD x).e == 0) = p := ⟨_, rfl⟩
  rw [hp] at VX
  obtain ⟨a, b, e⟩ := r
  have ta : (a != a) = false := by simp
  have tb : (b != b) = false := by simp
  have te : (e != e) = false := by simp
  rw [← hn] at hl
  clear hn
  by_cases hgo : e = 0 ∧ p = true
  · obtain ⟨rfl, rfl⟩ := hgo
    have fx : fi x := ⟨hx.1, hx.2, OfD_e5 (by simpa using hp)⟩
    have hm : 0 ≤ mode ∧ mode ≤ 4 := by
      rcases Classical.em (0 ≤ mode ∧ mode ≤ 4) with h | h
      · exact h
      · rw [AT_no h] at hr; cases hr
    have h200 : L.length ≤ 200 := by
      rcases Nat.lt_or_ge 200 L.length with h | h
      · rw [AT_large hm h] at hr; cases hr
      · exact h
    have op := once_p hu fx (by rw [hr])
    have ba := AT_bd mode hu
    have nx := F.neg_bd x hx.1 hx.2
    have huR : u64s (L.reverse ++ [x, F.neg x]) := by
      intro z hz
      simp only [List.mem_append, List.mem_reverse, List.mem_cons, List.not_mem_nil, or_false] at hz
      rcases hz with hz | rfl | rfl
      · exact hu z hz
      · exact hx
      · exact nx
    have bg := AT_bd mode huR
    obtain ⟨q, hq⟩ : ∃ q, AT (L.reverse ++ [x, F.neg x]) mode = q := ⟨_, rfl⟩
    rw [hr, hq] at op
    rw [hr] at ba
    rw [hq] at bg
    obtain ⟨g, h, i⟩ := q
    dsimp only at op ba bg
    have U3 := Lib.hid huR
    have R3 := Lib.hid hq
    have K3 : Hid ((L.reverse ++ [x, F.neg x]).length ≤ 9223372036854775807) := by show _ ≤ _; simp; omega
    have K4 : Hid (L.reverse.length ≤ 1000000000000) := by show _ ≤ _; rw [List.length_reverse]; omega
    have CG : Hid (∀ W : World, Calls Tryd.prog 57 #[.int .u64 g] W fun e w' => e = .returned (.int .i64 (F.cls g)) ∧ W = w') := fun W => FloatC.Class_c g bg.1 bg.2 W
    have CA : Hid (∀ W : World, Calls Tryd.prog 57 #[.int .u64 a] W fun e w' => e = .returned (.int .i64 (F.cls a)) ∧ W = w') := fun W => FloatC.Class_c a ba.1 ba.2 W
    have o3 : i = 2 ∨ (i = 0 ∧ h = b ∧ g = a) ∨ (i = 0 ∧ h = b ∧ (g == a) = false ∧ F.cls g = 1 ∧ F.cls a = 1) := by
      rcases op with ⟨h1, -⟩ | ⟨h1, h2, h3⟩
      · exact .inl h1
      · by_cases hg : g = a
        · exact .inr (.inl ⟨h1, h2, hg⟩)
        · rcases h3 with h3 | h3
          · exact absurd h3 hg
          · exact .inr (.inr ⟨h1, h2, by simp [hg], h3.1, h3.2⟩)
    generalize F.cls g = cg at *
    generalize F.cls a = ca at *
    clear op hr hq fx hm h200 ba bg nx huR hu hs hA hl hx hT hp
    have tbb : (b == b) = true := by simp
    have taa : (a == a) = true := by simp
    generalize F.neg x = nx at *
    rcases o3 with rfl | ⟨rfl, rfl, rfl⟩ | ⟨rfl, rfl, hg, rfl, rfl⟩
    all_goals (
      go_enter Tryd.func13, Tryd.ntmps13
      go_wp2_with (first
        | (go_at_call 53; (with_reducible refine (AL.out _ _ _ _ L _ R1.out (HS.out _ D.out) U1.out K1.out D.out).mono ?_); rintro e w1 ⟨rfl, hb⟩; have D := Lib.hid (D.out.trans (hb.mono D.out.size)); clear hb)
        | (go_at_call 61; (with_reducible refine (CL.out _ D.out).mono ?_); rintro e w2 ⟨A1, c1, rfl, hO, hA1, hb⟩; have sz := D.out.size; have Q := Lib.hid (hO.low' sz); have D := Lib.hid (D.out.trans (hb.mono sz)); have HA1 := Lib.hid hA1; clear hO hA1 hb sz)
        | (go_at_call 62; (with_reducible refine (RV.out _ _ _ _ _ Q.out HA1.out D.out.size).mono ?_); rintro e w3 ⟨rfl, hO, hb⟩; have Q := Lib.hid hO; have D := Lib.hid (D.out.trans hb); clear hO hb)
        | (go_at_call 53; (with_reducible refine (AL.out _ _ _ _ L.reverse _ R2.out Q.out.sl U2.out K2.out D.out).mono ?_); rintro e w4 ⟨rfl, hb⟩; have Q := Lib.hid (Q.out.below' hb); have D := Lib.hid (D.out.trans (hb.mono D.out.size)); clear hb)
        | (go_at_call 55; (with_reducible refine (LV.out _ D.out).mono ?_); rintro e w5 ⟨rfl, hb⟩; have Q := Lib.hid (Q.out.below' hb); have D := Lib.hid (D.out.trans (hb.mono D.out.size)); clear hb)
        | (go_at_call 59; (with_reducible refine (VX.out _ D.out).mono ?_); rintro e w6 ⟨bx, Ax, nx', cx, xx, rfl, hv, hb⟩; have s := hb.alloc hb.size (.cells #[.bool bx, .slice Ax nx' cx, .int .i64 xx] 25); have Q := Lib.hid (Q.out.below' s); have D := Lib.hid (D.out.trans (s.mono D.out.size)); clear hv hb s)
        | (go_at_call 58; (with_reducible refine (NG.out _).mono ?_); rintro e w7 ⟨rfl, rfl⟩)
        | (at_builtin; refine app2 el_u64 rfl (.tmp 66) (.tmp 70) rfl rfl Q.out x nx (H := w6.heap.size + 1) (by simp) rfl K4.out D.out.size ?_; intro A2 n2 c2 w8 hn2 hO hg8; have Q8 := Lib.hid hO; have D := Lib.hid (D.out.grown hg8 D.out.size (fun k hk => (Own.lt Q.out k hk).1)); clear hO hg8 hn2)
        | (go_at_call 53; (with_reducible refine (AL.out _ _ _ _ _ _ R3.out Q8.out.sl U3.out K3.out D.out).mono ?_); rintro e w9 ⟨rfl, hb⟩; have D := Lib.hid (D.out.trans (hb.mono D.out.size)); clear hb)
        | (go_at_call 57; (with_reducible refine (CG.out _).mono ?_); rintro e w10 ⟨rfl, rfl⟩)
        | (go_at_call 57; (with_reducible refine (CA.out _).mono ?_); rintro e w11 ⟨rfl, rfl⟩))
      go_ret
      exact ⟨rfl, D.out⟩)
  · have hno : (e != 0) = true ∨ ((e != 0) = false ∧ p = false) := by
      by_cases h : e = 0
      · right
        refine ⟨by simp [h], ?_⟩
        cases p
        · rfl
        · exact absurd ⟨h, rfl⟩ hgo
      · exact .inl (by simp [h])
    clear hgo hr hu hs hA hl hx hT hp
    rcases hno with h1 | ⟨h1, rfl⟩
    all_goals (
      go_enter Tryd.func13, Tryd.ntmps13
      go_wp2_with (first
        | (go_at_call 53; (with_reducible refine (AL.out _ _ _ _ L _ R1.out (HS.out _ D.out) U1.out K1.out D.out).mono ?_); rintro e w1 ⟨rfl, hb⟩; have D := Lib.hid (D.out.trans (hb.mono D.out.size)); clear hb)
        | (go_at_call 61; (with_reducible refine (CL.out _ D.out).mono ?_); rintro e w2 ⟨A1, c1, rfl, hO, hA1, hb⟩; have sz := D.out.size; have Q := Lib.hid (hO.low' sz); have D := Lib.hid (D.out.trans (hb.mono sz)); have HA1 := Lib.hid hA1; clear hO hA1 hb sz)
        | (go_at_call 62; (with_reducible refine (RV.out _ _ _ _ _ Q.out HA1.out D.out.size).mono ?_); rintro e w3 ⟨rfl, hO, hb⟩; have Q := Lib.hid hO; have D := Lib.hid (D.out.trans hb); clear hO hb)
        | (go_at_call 53; (with_reducible refine (AL.out _ _ _ _ L.reverse _ R2.out Q.out.sl U2.out K2.out D.out).mono ?_); rintro e w4 ⟨rfl, hb⟩; have D := Lib.hid (D.out.trans (hb.mono D.out.size)); clear hb Q)
        | (go_at_call 55; (with_reducible refine (LV.out _ D.out).mono ?_); rintro e w5 ⟨rfl, hb⟩; have D := Lib.hid (D.out.trans (hb.mono D.out.size)); clear hb)
        | (go_at_call 59; (with_reducible refine (VX.out _ D.out).mono ?_); rintro e w6 ⟨bx, Ax, nx', cx, xx, rfl, hv, hb⟩; have s := hb.alloc hb.size (.cells #[.bool bx, .slice Ax nx' cx, .int .i64 xx] 25); have D := Lib.hid (D.out.trans (s.mono D.out.size)); clear hv hb s))
      go_ret
      exact ⟨rfl, D.out⟩)
end SC
end Go.Proofs.YtcendlgbcnpfcaaDoor
