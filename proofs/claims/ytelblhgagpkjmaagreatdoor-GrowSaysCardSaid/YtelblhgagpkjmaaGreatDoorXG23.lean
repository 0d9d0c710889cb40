/-
  Package grow: Value, Sign.
-/
import Derived.Test.YtelblhgagpkjmaaGreatDoorXG22
import Derived.Test.YtelblhgagpkjmaaGreatDoorF16
namespace Go.Proofs.YtelblhgagpkjmaaGreatDoor
set_option linter.unusedVariables false
set_option linter.unusedSimpArgs false
open Go.RowKit
set_option linter.unusedVariables false
set_option linter.unusedSimpArgs false
namespace XC
open L NC NK DC RC SC PC QC IC
open Z (cmpv)
/-- what the loop of Value keeps: the result's cell, the total's, its value -/
structure GX (w W : World) (g : Nat) (b : Bool) (A : Option Addr) (n c : Nat) (x : Int) (d : Dy) : Prop where
  r : Blk W w.heap.size 26 #[.bool false, .slice none 0 0, .int .i64 0]
  t : Blk W g 26 #[.bool b, .slice A n c, .int .i64 x]
  v : GV W b A n c x d
  b : Below w.heap.size w W
  h : w.heap.size < g
theorem GX.below {w W W' : World} {g b A n c x d} (h : GX w W g b A n c x d) (hb : Below W.heap.size W W') : GX w W' g b A n c x d :=
  ⟨h.r.below hb h.r.lt, h.t.below hb h.t.lt, h.v.below hb, h.b.trans (hb.mono h.b.size), h.h⟩
theorem GX.set {w W : World} {g b A n c x d b' A' n' c' x' d'} (h : GX w W g b A n c x d) (k : GV W b' A' n' c' x' d') :
    GX w (((W.setCell ⟨g, 0, none⟩ (.bool b')).setCell ⟨g, 1, none⟩ (.slice A' n' c')).setCell ⟨g, 2, none⟩ (.int .i64 x')) g b' A' n' c' x' d' := by
  have hh := h.h
  refine ⟨?_, Blk3 h.t _ _ _, k.set3 h.t _ _ _ (by intro z h; cases h) (by intro z h; cases h), DC.below3 h.b (by omega) _ _ _, hh⟩
  exact ((h.r.far (show w.heap.size ≠ g by omega) _).far (show w.heap.size ≠ g by omega) _).far (show w.heap.size ≠ g by omega) _
set_option maxRecDepth 100000 in
set_option maxHeartbeats 16000000 in
theorem Value_g (A : Option Addr) (n c : Nat) (L : List Int) (w : World) (hs : Sl .u64 w (.slice A n c) L) (hu : u64s L) (hl : L.length ≤ 9223372036854775807) (hT : TabD w) :
    Calls Tryz.prog 4 #[.slice A n c] w (DC.RetD w (gVa L)) := by
  obtain ⟨W0, hW0, D0, ZS, KB⟩ := res0 w
  have CK := Lib.hid (Check_g A n c L W0 (hs.below D0) hu hl (hT.below D0))
  have KB := Lib.hid KB
  have D0 := Lib.hid D0
  have HW0 := Lib.hid hW0
  have ZS := Lib.hid ZS
  by_cases kA : gCk L = 0
  · have e : gVa L = ⟨0, tot L dz⟩ := by unfold gVa; rw [if_pos kA]
    rw [e]
    rw [kA] at CK
    have hn := sl_len hs
    have n60 : n ≤ 60 := by have := (gCk_0.1 kA).1; omega
    have HN := Lib.hid hn
    have HF := Lib.hid (gCk_fi kA)
    have HS : Hid (∀ W, Below w.heap.size w W → Sl .u64 W (.slice A n c) L) := fun W hW => hs.below hW
    have VG : Hid (∀ (W : World) (x : Int), Below w.heap.size w W → fi x → Calls Tryz.prog 18 #[.int .u64 x] W (RetG W (OfD x).d)) := fun W x hW hx => value_g x W ⟨hx.1, hx.2.1⟩ (hT.below hW)
    have AD : Hid (∀ (W : World) (u v : Value) (d1 d2 : Dy), DV W u d1 → DV W v d2 → Below w.heap.size w W → Calls Tryz.prog 17 #[u, v] W (RetD W (DC.Add d1 d2))) := fun W u v d1 d2 h1 h2 hW => Add_d u v d1 d2 W h1 h2 (hT.below hW)
    clear e kA hs hu hl hT hW0 hn
    go_enter Tryz.func4, Tryz.ntmps4
    go_wp2_with (go_at_call 9; rw [HW0.out]; (with_reducible refine (CK.out).mono ?_); rintro e w1 ⟨rfl, hb⟩; have D := Lib.hid hb; clear hb)
    have N1 := Blk.new w1 26 #[.bool false, .slice none 0 0, .int .i64 0]
    have R1 := (KB.out _ D.out).alloc (.cells #[.bool false, .slice none 0 0, .int .i64 0] 26)
    have D1 := (D0.out.trans (D.out.mono D0.out.size)).alloc (D0.out.trans (D.out.mono D0.out.size)).size (.cells #[.bool false, .slice none 0 0, .int .i64 0] 26)
    have hg : w.heap.size < w1.heap.size := by have := D.out.size; have := ZS.out; omega
    obtain ⟨V0, hV0⟩ : ∃ V0, w1.alloc (.cells #[.bool false, .slice none 0 0, .int .i64 0] 26) = V0 := ⟨_, rfl⟩
    obtain ⟨g, hgg⟩ : ∃ g, g = w1.heap.size := ⟨_, rfl⟩
    rw [hV0] at N1 R1 D1 ⊢
    rw [← hgg] at N1 hg ⊢
    have E0 : Hid (GX w V0 g false none 0 0 0 dz) := ⟨R1, N1, GV.zero _, D1, hg⟩
    clear N1 R1 D1 hV0 hgg hg D
    go_loopw [16] (fun iv wr => ∃ (k : Nat) (b : Bool) (A' : Option Addr) (n' c' : Nat) (x' : Int), iv = .int .i64 k ∧ k ≤ n ∧ Hid (GX w wr g b A' n' c' x' (tot (L.take k) dz))) (fun iv _ => n - (intOf iv).toNat)
    case atStart => exact ⟨0, _, _, _, _, _, rfl, by omega, E0.out⟩
    case round =>
      obtain ⟨k, bt, At, nt, ct, xt, rfl, hk, hE⟩ := hrel
      by_cases hkn : k < n
      · obtain ⟨ad, c', e, hc', hb, hcell⟩ := (HS.out _ hE.out.b).at_ k (by rw [← HN.out]; exact hkn)
        injection e with e1 e2 e3
        subst e1
        clear e2 e3 hc' c' hb
        obtain ⟨x, hx⟩ : ∃ x, L.getD k 0 = x := ⟨_, rfl⟩
        have hx2 : L[k]? = some x := by
          rw [List.getD_eq_getElem?_getD] at hx
          rw [List.getElem?_eq_getElem (by rw [← HN.out]; exact hkn)] at hx ⊢
          rw [← hx]; rfl
        have hfx : fi x := HF.out x (List.mem_of_getElem? hx2)
        have hd := tot_succ hx2 dz
        rw [hx] at hcell
        have HD := Lib.hid hd
        have VX : Hid (∀ W : World, Below wr.heap.size wr W → Calls Tryz.prog 18 #[.int .u64 x] W (RetG W (OfD x).d)) := fun W h => VG.out W x (hE.out.b.trans (h.mono hE.out.b.size)) hfx
        obtain ⟨dt, hdt⟩ : ∃ dt, tot (L.take k) dz = dt := ⟨_, rfl⟩
        rw [hdt] at hE HD
        have KE : Hid (∀ W : World, Below wr.heap.size wr W → GX w W g bt At nt ct xt dt) := fun W h => hE.out.below h
        clear hx hx2 hfx hd hdt
        go_upto_region 8 with fail
        have D : Below wr.heap.size wr wr.drew := (Below.refl _ _).drew
        clear hcell
        have T0 := (KE.out _ (Below.refl _ _)).t
        (refine wp_region_L (S := fun w' => True) (nl := 1000000) (by kernel_rfl) ?_ (fun hHeld => ?_); focus (trivial))
        (refine wpAnyL_take (i := 1) (oi := _) (v := ?_) rfl (by kernel_rfl) (by kernel_rfl) (by kernel_rfl) (fun _ _ _ h => h) (Or.inl ⟨by first | rfl | kernel_rfl, ?hy1⟩) (by assumption) ?rs1; (case hy1 => (intro w hSw; (try dsimp only at hSw); go_simp; first | done | with_reducible rfl)); case' rs1 => (simp only [List.getElem_toArray, List.getElem_cons_zero, List.getElem_cons_succ, Act.put, List.setIfInBounds_toArray, List.set_cons_zero, List.set_cons_succ])); skip
        refine wpAnyL_two (i := 0) (j := 2) (oi := _) (oj := _) (by kernel_rfl) rfl rfl (fun K hK => ?_) (fun K hK => ?_)
        · have p0 := ((KE.out _ D).t).at_ 0 rfl
          have p1 := ((KE.out _ D).t).at_ 1 rfl
          have p2 := ((KE.out _ D).t).at_ 2 rfl
          (clear hHeld; simp only [List.getElem_toArray, List.getElem_cons_zero, List.getElem_cons_succ]; go_simp; refine hK.out _ _ ?_ (fun hHeld => ?_); focus (intro _; trivial)); have hHeld := hHeld (by decide); clear hK K; (try simp only [Act.put, List.setIfInBounds_toArray, List.set_cons_zero, List.set_cons_succ])
          (refine wpAnyL_one (i := 2) (o := _) (by kernel_rfl) rfl (fun K hK => ?_); clear hHeld; simp only [List.getElem_toArray, List.getElem_cons_zero, List.getElem_cons_succ]; go_simp; (go_at_call 18; (with_reducible refine (VX.out _ D).mono ?_); rintro e v1 ⟨b1, A1, n1, c1, t1, rfl, g1, hb⟩; have D := D.trans (hb.mono D.size); clear hb); refine hK.out _ _ ?_ (fun hHeld => ?_); focus (intro _; trivial)); have hHeld := hHeld (by decide); clear hK K; (try simp only [Act.put, List.setIfInBounds_toArray, List.set_cons_zero, List.set_cons_succ])
          (refine wpAnyL_one (i := 3) (o := _) (by kernel_rfl) rfl (fun K hK => ?_); clear hHeld; simp only [List.getElem_toArray, List.getElem_cons_zero, List.getElem_cons_succ]; go_simp; (go_at_call 17; (with_reducible refine (AD.out _ _ _ _ _ (KE.out _ D).v.dv g1.dv (KE.out _ D).b).mono ?_); rintro e v2 ⟨b3, A3, n3, c3, x3, rfl, hv3, hb⟩; have E3 := (KE.out _ D).below hb; clear g1); refine hK.out _ _ ?_ (fun hHeld => ?_); focus (intro _; trivial)); have hHeld := hHeld (by decide); clear hK K; (try simp only [Act.put, List.setIfInBounds_toArray, List.set_cons_zero, List.set_cons_succ])
          have f0 := E3.t.frozen 0
          have f1 := E3.t.frozen 1
          have f2 := E3.t.frozen 2
          have q0 := E3.t.at_ 0 rfl
          have q1 := E3.t.at_ 1 rfl
          have q2 := E3.t.at_ 2 rfl
          have E4 := Lib.hid (E3.set hv3)
          clear E3 hv3
          (refine wpAnyL_take (i := 4) (oi := _) (v := ?_) rfl (by kernel_rfl) (by kernel_rfl) (by kernel_rfl) (fun _ _ _ h => h) (Or.inl ⟨by first | rfl | kernel_rfl, ?hy2⟩) (by assumption) ?rs2; (case hy2 => (intro w hSw; (try dsimp only at hSw); go_simp; first | done | with_reducible rfl)); case' rs2 => (simp only [List.getElem_toArray, List.getElem_cons_zero, List.getElem_cons_succ, Act.put, List.setIfInBounds_toArray, List.set_cons_zero, List.set_cons_succ])); (refine wpAnyL_take (i := 5) (oi := _) (v := ?_) rfl (by kernel_rfl) (by kernel_rfl) (by kernel_rfl) (fun _ _ _ h => h) (Or.inl ⟨by first | rfl | kernel_rfl, ?hy3⟩) (by assumption) ?rs3; (case hy3 => (intro w hSw; (try dsimp only at hSw); go_simp; first | done | with_reducible rfl)); case' rs3 => (simp only [List.getElem_toArray, List.getElem_cons_zero, List.getElem_cons_succ, Act.put, List.setIfInBounds_toArray, List.set_cons_zero, List.set_cons_succ])); (refine wpAnyL_take (i := 6) (oi := _) (v := ?_) rfl (by kernel_rfl) (by kernel_rfl) (by kernel_rfl) (fun _ _ _ h => h) (Or.inl ⟨by first | rfl | kernel_rfl, ?hy4⟩) (by assumption) ?rs4; (case hy4 => (intro w hSw; (try dsimp only at hSw); go_simp; first | done | with_reducible rfl)); case' rs4 => (simp only [List.getElem_toArray, List.getElem_cons_zero, List.getElem_cons_succ, Act.put, List.setIfInBounds_toArray, List.set_cons_zero, List.set_cons_succ])); skip
          (refine wpAnyL_one (i := 7) (o := _) (by kernel_rfl) rfl (fun K hK => ?_); clear hHeld; simp only [List.getElem_toArray, List.getElem_cons_zero, List.getElem_cons_succ]; go_simp; refine hK.out _ _ ?_ (fun hHeld => ?_); focus (intro _; trivial)); have hHeld := hHeld (by decide); clear hK K; (try simp only [Act.put, List.setIfInBounds_toArray, List.set_cons_zero, List.set_cons_succ])
          refine wpAnyL_done (by kernel_rfl) ?_ _
          clear hHeld
          go_wp2
          exact ⟨⟨k + 1, _, _, _, _, _, by simp, by omega, by rw [HD.out]; exact E4.out⟩, by simp only [intOf]; omega⟩
        · (clear hHeld; simp only [List.getElem_toArray, List.getElem_cons_zero, List.getElem_cons_succ]; go_simp; (go_at_call 18; (with_reducible refine (VX.out _ D).mono ?_); rintro e v1 ⟨b1, A1, n1, c1, t1, rfl, g1, hb⟩; have D := D.trans (hb.mono D.size); clear hb); refine hK.out _ _ ?_ (fun hHeld => ?_); focus (intro _; trivial)); have hHeld := hHeld (by decide); clear hK K; (try simp only [Act.put, List.setIfInBounds_toArray, List.set_cons_zero, List.set_cons_succ])
          have p0 := ((KE.out _ D).t).at_ 0 rfl
          have p1 := ((KE.out _ D).t).at_ 1 rfl
          have p2 := ((KE.out _ D).t).at_ 2 rfl
          (refine wpAnyL_one (i := 0) (o := _) (by kernel_rfl) rfl (fun K hK => ?_); clear hHeld; simp only [List.getElem_toArray, List.getElem_cons_zero, List.getElem_cons_succ]; go_simp; refine hK.out _ _ ?_ (fun hHeld => ?_); focus (intro _; trivial)); have hHeld := hHeld (by decide); clear hK K; (try simp only [Act.put, List.setIfInBounds_toArray, List.set_cons_zero, List.set_cons_succ])
          (refine wpAnyL_one (i := 3) (o := _) (by kernel_rfl) rfl (fun K hK => ?_); clear hHeld; simp only [List.getElem_toArray, List.getElem_cons_zero, List.getElem_cons_succ]; go_simp; (go_at_call 17; (with_reducible refine (AD.out _ _ _ _ _ (KE.out _ D).v.dv g1.dv (KE.out _ D).b).mono ?_); rintro e v2 ⟨b3, A3, n3, c3, x3, rfl, hv3, hb⟩; have E3 := (KE.out _ D).below hb; clear g1); refine hK.out _ _ ?_ (fun hHeld => ?_); focus (intro _; trivial)); have hHeld := hHeld (by decide); clear hK K; (try simp only [Act.put, List.setIfInBounds_toArray, List.set_cons_zero, List.set_cons_succ])
          have f0 := E3.t.frozen 0
          have f1 := E3.t.frozen 1
          have f2 := E3.t.frozen 2
          have q0 := E3.t.at_ 0 rfl
          have q1 := E3.t.at_ 1 rfl
          have q2 := E3.t.at_ 2 rfl
          have E4 := Lib.hid (E3.set hv3)
          clear E3 hv3
          (refine wpAnyL_take (i := 4) (oi := _) (v := ?_) rfl (by kernel_rfl) (by kernel_rfl) (by kernel_rfl) (fun _ _ _ h => h) (Or.inl ⟨by first | rfl | kernel_rfl, ?hy5⟩) (by assumption) ?rs5; (case hy5 => (intro w hSw; (try dsimp only at hSw); go_simp; first | done | with_reducible rfl)); case' rs5 => (simp only [List.getElem_toArray, List.getElem_cons_zero, List.getElem_cons_succ, Act.put, List.setIfInBounds_toArray, List.set_cons_zero, List.set_cons_succ])); (refine wpAnyL_take (i := 5) (oi := _) (v := ?_) rfl (by kernel_rfl) (by kernel_rfl) (by kernel_rfl) (fun _ _ _ h => h) (Or.inl ⟨by first | rfl | kernel_rfl, ?hy6⟩) (by assumption) ?rs6; (case hy6 => (intro w hSw; (try dsimp only at hSw); go_simp; first | done | with_reducible rfl)); case' rs6 => (simp only [List.getElem_toArray, List.getElem_cons_zero, List.getElem_cons_succ, Act.put, List.setIfInBounds_toArray, List.set_cons_zero, List.set_cons_succ])); (refine wpAnyL_take (i := 6) (oi := _) (v := ?_) rfl (by kernel_rfl) (by kernel_rfl) (by kernel_rfl) (fun _ _ _ h => h) (Or.inl ⟨by first | rfl | kernel_rfl, ?hy7⟩) (by assumption) ?rs7; (case hy7 => (intro w hSw; (try dsimp only at hSw); go_simp; first | done | with_reducible rfl)); case' rs7 => (simp only [List.getElem_toArray, List.getElem_cons_zero, List.getElem_cons_succ, Act.put, List.setIfInBounds_toArray, List.set_cons_zero, List.set_cons_succ])); skip
          (refine wpAnyL_one (i := 7) (o := _) (by kernel_rfl) rfl (fun K hK => ?_); clear hHeld; simp only [List.getElem_toArray, List.getElem_cons_zero, List.getElem_cons_succ]; go_simp; refine hK.out _ _ ?_ (fun hHeld => ?_); focus (intro _; trivial)); have hHeld := hHeld (by decide); clear hK K; (try simp only [Act.put, List.setIfInBounds_toArray, List.set_cons_zero, List.set_cons_succ])
          refine wpAnyL_done (by kernel_rfl) ?_ _
          clear hHeld
          go_wp2
          exact ⟨⟨k + 1, _, _, _, _, _, by simp, by omega, by rw [HD.out]; exact E4.out⟩, by simp only [intOf]; omega⟩
      · have hkn2 : k = n := by omega
        subst hkn2
        have he : L.take k = L := by rw [HN.out, List.take_length]
        rw [he] at hE
        have p0 := hE.out.t.at_ 0 rfl
        have p1 := hE.out.t.at_ 1 rfl
        have p2 := hE.out.t.at_ 2 rfl
        have t0 := hE.out.r.at_ 0 rfl
        have t1 := hE.out.r.at_ 1 rfl
        have t2 := hE.out.r.at_ 2 rfl
        have f0 := hE.out.r.frozen 0
        have f1 := hE.out.r.frozen 1
        have f2 := hE.out.r.frozen 2
        clear he
        go_wp2
        exact bodyPost_ret (v := .tuple #[.agg #[.bool bt, .slice At nt ct, .int .i64 xt], .int .i64 0]) (by simp [results, Tryz.results4, go_sem, t0, t1, t2]) rfl
          ⟨_, _, _, _, _, rfl, hE.out.v.set3 hE.out.r _ _ _ (by intro z h; cases h) (by intro z h; cases h), DC.below3 hE.out.b (by omega) _ _ _⟩
  · have e : gVa L = ⟨gCk L, dz⟩ := by unfold gVa; rw [if_neg kA]
    rw [e]
    have kk : (gCk L != 0) = true := by simpa using kA
    generalize gCk L = er at *
    clear e kA hs hu hl hT hW0
    go_enter Tryz.func4, Tryz.ntmps4
    go_wp2_with (go_at_call 9; rw [HW0.out]; (with_reducible refine (CK.out).mono ?_); rintro e w1 ⟨rfl, hb⟩; have D := Lib.hid hb; have R2 := KB.out _ hb; have t0 := R2.at_ 0 rfl; have t1 := R2.at_ 1 rfl; have t2 := R2.at_ 2 rfl; have f0 := R2.frozen 0; have f1 := R2.frozen 1; have f2 := R2.frozen 2; have R2 := Lib.hid R2; clear hb)
    exact bodyPost_ret (v := .tuple #[.agg #[.bool false, .slice none 0 0, .int .i64 0], .int .i64 er]) (by simp [results, Tryz.results4, go_sem, t0, t1, t2]) rfl
      (RetD.none (DC.below3 (D0.out.trans (D.out.mono D0.out.size)) (by omega) _ _ _))
theorem last_at {L : List Int} (h : L ≠ []) : L.getLast?.getD 0 = L.getD (L.length - 1) 0 := by
  rw [List.getLast?_eq_getElem?, List.getD_eq_getElem?_getD]
set_option maxRecDepth 100000 in
set_option maxHeartbeats 4000000 in
theorem Sign_g (A : Option Addr) (n c : Nat) (L : List Int) (w : World) (hs : Sl .u64 w (.slice A n c) L) (hu : u64s L) (hl : L.length ≤ 9223372036854775807) (hT : TabD w) :
    Calls Tryz.prog 5 #[.slice A n c] w (DC.RetB w (.tuple #[.int .i64 (gSn L).1, .int .i64 (gSn L).2])) := by
  have D := Lib.hid (Below.refl w.heap.size w)
  have CA := Lib.hid (Check_g A n c L w hs hu hl hT)
  have hn := sl_len hs
  by_cases kA : gCk L = 0
  · obtain ⟨sg, -⟩ := gsign kA
    rw [sg]
    rw [kA] at CA
    obtain ⟨l6, iX⟩ := gCk_0.1 kA
    by_cases h0 : L = []
    · obtain rfl : n = 0 := by rw [hn, h0]; rfl
      have e : cmpv (vs L) 0 = 0 := by rw [h0]; rfl
      rw [e]
      clear e h0 kA sg hn hs hu hl hT l6 iX
      go_enter Tryz.func5, Tryz.ntmps5
      go_wp2_with (go_at_call 9; (with_reducible refine (CA.out).mono ?_); rintro e w1 ⟨rfl, hb⟩; have D := Lib.hid hb; clear hb)
      go_ret2
      exact ⟨rfl, D.out⟩
    · have hn0 : n ≠ 0 := fun q => h0 (List.length_eq_zero_iff.1 (by omega))
      have vsn := vs_sign iX h0
      rw [last_at h0, ← hn] at vsn
      obtain ⟨x, hx⟩ : ∃ x, L.getD (n - 1) 0 = x := ⟨_, rfl⟩
      have hm : x ∈ L := by rw [← hx, List.getD_eq_getElem?_getD, List.getElem?_eq_getElem (by omega)]; exact List.getElem_mem _
      have fx := isX_fi iX x hm
      rw [hx] at vsn
      obtain ⟨ad, c', e, hc', hb, -⟩ := hs.at_ 0 (by omega)
      injection e with e1 e2 e3
      subst e1
      clear e2 e3 hc' hb c'
      have CJ : Hid (∀ W : World, Below w.heap.size w W → W.cell? (ad.add (n - 1)) = some (.int .u64 x)) := fun W h => by
        obtain ⟨ad', c', e, _, _, h'⟩ := (hs.below h).at_ (n - 1) (by omega)
        injection e with e1 e2 e3
        cases e1
        rw [hx] at h'
        exact h'
      have u0 : 0 ≤ U (x % 9223372036854775808) := U_pos (by have := fx.1; omega)
      have vv := val_eq fx
      have n60 : n ≤ 60 := by omega
      have t0 : ¬ ((n : Int) = 0) := by omega
      have tz : decide (n = 0) = false := by simpa using hn0
      have PT : Hid (∀ W : World, Calls Tryz.prog 19 #[.int .u64 x] W fun e w' => e = .returned (.tuple #[.bool (F.sgn x), .int .i64 (F.exq x), .int .u64 (F.fra x)]) ∧ W = w') := fun W => FloatC.Parts_c x fx.1 fx.2.1 W
      have kz : (cmpv (vs L) 0 = 1 ∧ F.sgn x = false) ∨ (cmpv (vs L) 0 = -1 ∧ F.sgn x = true) := by
        rcases vsn with ⟨a, b⟩ | ⟨a, b⟩
        · refine .inl ⟨Z.cmpv_gt b, ?_⟩
          cases q : F.sgn x
          · rfl
          · rw [q] at vv; unfold sgm at vv; simp at vv; omega
        · refine .inr ⟨Z.cmpv_lt b, ?_⟩
          cases q : F.sgn x
          · rw [q] at vv; unfold sgm at vv; simp at vv; omega
          · rfl
      rcases kz with ⟨e, s⟩ | ⟨e, s⟩
      all_goals (
        rw [e]
        rw [s] at PT
        generalize F.exq x = fe at *
        generalize F.fra x = ff at *
        clear e s vsn vv u0 hm fx hx kA sg hn hs hu hl hT l6 iX h0
        go_enter Tryz.func5, Tryz.ntmps5
        go_wp2_with (first
          | (go_at_call 9; (with_reducible refine (CA.out).mono ?_); rintro e w1 ⟨rfl, hb⟩; have D := Lib.hid hb; have cj := CJ.out _ D.out; clear hb)
          | (go_at_call 19; (with_reducible refine (PT.out _).mono ?_); rintro e w2 ⟨rfl, rfl⟩))
        go_ret2
        exact ⟨rfl, D.out⟩)
  · have e : gSn L = (0, gCk L) := by unfold gSn; rw [if_neg kA]
    rw [e]
    have kk : (gCk L != 0) = true := by simpa using kA
    generalize gCk L = er at *
    clear e kA hn hs hu hl hT
    go_enter Tryz.func5, Tryz.ntmps5
    go_wp2_with (go_at_call 9; (with_reducible refine (CA.out).mono ?_); rintro e w1 ⟨rfl, hb⟩; have D := Lib.hid hb; clear hb)
    go_ret2
    exact ⟨rfl, D.out⟩
end XC
end Go.Proofs.YtelblhgagpkjmaaGreatDoor
