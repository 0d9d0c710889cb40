/-
  Package grow: apart, Check.
-/
import Derived.Test.YtelblhgagpkjmaaGreatDoorXG21
import Derived.Test.YtelblhgagpkjmaaGreatDoorF1
namespace Go.Proofs.YtelblhgagpkjmaaGreatDoor
set_option linter.unusedVariables false
set_option linter.unusedSimpArgs false
open Go.RowKit
set_option linter.unusedVariables false
set_option linter.unusedSimpArgs false
namespace XC
open L NC NK DC RC SC PC QC IC
open Z (cmpv)
theorem gck_3 {L : List Int} (hl : L.length ≤ 60) (hf : ∀ x ∈ L, fi x) (h : ¬ isX L) : gCk L = 3 := by
  unfold gCk
  rw [if_neg (by omega), if_neg (fun ⟨x, hx, q⟩ => (hf x hx).2.2 q), if_neg h]
theorem gck_4 {L : List Int} (hl : L.length ≤ 60) (h : ∃ x ∈ L, F.exq x = 2047) : gCk L = 4 := by
  unfold gCk
  rw [if_neg (by omega), if_pos h]
theorem isX_q {L : List Int} (hf : ∀ x ∈ L, fi x) (hm : ∀ x ∈ L, (OfD x).d.m ≠ 0) : isX L ↔ ∀ k j, k < L.length → j + 1 = k → topx (L.getD j 0) < lowx (L.getD k 0) := by
  rw [isX_at]
  have mem : ∀ k, k < L.length → L.getD k 0 ∈ L := fun k hk => by rw [List.getD_eq_getElem?_getD, List.getElem?_eq_getElem hk]; exact List.getElem_mem _
  exact ⟨fun h k j hk => (h k hk).2.2 j, fun h k hk => ⟨hf _ (mem k hk), hm _ (mem k hk), fun j => h k j hk⟩⟩
theorem field_d (b : Bool) (A : Option Addr) (n c : Nat) (x : Int) (W : World) : (Instr.field 26 (.agg #[.bool b, .slice A n c, .int .i64 x]) 2).run Tryz.prog W = .ok (.int .i64 x) W := by kernel_rfl
set_option maxRecDepth 100000 in
set_option maxHeartbeats 16000000 in
theorem apart_g (A0 : Option Addr) (n c : Nat) (L : List Int) (R : Bool) (w : World) (hs : Sl .u64 w (.slice A0 n c) L) (hf : ∀ x ∈ L, fi x) (hm : ∀ x ∈ L, (OfD x).d.m ≠ 0) (hl : L.length ≤ 60) (hR : R = true ↔ isX L) (hT : TabD w) :
    Calls Tryz.prog 31 #[.slice A0 n c] w (DC.RetB w (.bool R)) := by
  have hn := sl_len hs
  have D0 := Lib.hid (Below.refl w.heap.size w)
  rw [isX_q hf hm] at hR
  have n60 : n ≤ 60 := by omega
  have HN := Lib.hid hn
  have HS : Hid (∀ W : World, Below w.heap.size w W → Sl .u64 W (.slice A0 n c) L) := fun W h => hs.below h
  have HR := Lib.hid hR
  have HF := Lib.hid hf
  have HM := Lib.hid hm
  have VG : Hid (∀ (W : World) (x : Int), Below w.heap.size w W → fi x → Calls Tryz.prog 18 #[.int .u64 x] W (RetG W (OfD x).d)) := fun W x hW hx => value_g x W ⟨hx.1, hx.2.1⟩ (hT.below hW)
  clear hs hn hl hR hf hm hT
  go_enter Tryz.func31, Tryz.ntmps31
  go_wp2
  go_loopw [4] (fun iv wr => ∃ k : Nat, 1 ≤ k ∧ (k = 1 ∨ k ≤ n) ∧ iv = .int .i64 k ∧ Hid (∀ i j, i < k → j + 1 = i → topx (L.getD j 0) < lowx (L.getD i 0)) ∧ Hid (Below w.heap.size w wr)) (fun iv _ => n - (intOf iv).toNat)
  case atStart => exact ⟨1, by omega, .inl rfl, rfl, (fun i j hi hj => by omega), D0.out⟩
  case round =>
    obtain ⟨k, hk1, hk2, rfl, hP, hD⟩ := hrel
    by_cases hkn : k < n
    · have hkL : k < L.length := by rw [← HN.out]; exact hkn
      obtain ⟨j, hj⟩ : ∃ j, k = j + 1 := ⟨k - 1, by omega⟩
      have HJ := Lib.hid hj
      have hjL : j < L.length := by omega
      obtain ⟨ad, c', e, hc', hb, hcell⟩ := (HS.out _ hD.out).at_ k hkL
      injection e with e1 e2 e3
      subst e1
      clear e2 e3 hc' c' hb hcell
      obtain ⟨x, hx⟩ : ∃ x, L.getD k 0 = x := ⟨_, rfl⟩
      obtain ⟨y, hy⟩ : ∃ y, L.getD j 0 = y := ⟨_, rfl⟩
      have mx : x ∈ L := by rw [← hx, List.getD_eq_getElem?_getD, List.getElem?_eq_getElem hkL]; exact List.getElem_mem _
      have my : y ∈ L := by rw [← hy, List.getD_eq_getElem?_getD, List.getElem?_eq_getElem hjL]; exact List.getElem_mem _
      have fx := HF.out x mx
      have fy := HF.out y my
      have CJ : Hid (∀ W : World, Below wr.heap.size wr W → W.cell? (ad.add j) = some (.int .u64 y) ∧ W.cell? (ad.add k) = some (.int .u64 x)) := fun W h => by
        have hW := hD.out.trans (h.mono hD.out.size)
        constructor
        · obtain ⟨ad', c', e, _, _, h'⟩ := (HS.out W hW).at_ j hjL
          injection e with e1 e2 e3
          cases e1
          rw [hy] at h'
          exact h'
        · obtain ⟨ad', c', e, _, _, h'⟩ := (HS.out W hW).at_ k hkL
          injection e with e1 e2 e3
          cases e1
          rw [hx] at h'
          exact h'
      have jw : wrap64 ((k : Int) - 1) = (j : Int) := by unfold wrap64; omega
      have jw2 : IntKind.i64.wrap ((k : Int) - 1) = (j : Int) := by rw [IntWalk.i64_in _ (by omega)]; omega
      have jn : (j : Int) < (n : Int) := by omega
      have kn : (k : Int) < (n : Int) := by omega
      have VX : Hid (∀ W : World, Below wr.heap.size wr W → Calls Tryz.prog 18 #[.int .u64 x] W (RetG W (OfD x).d)) := fun W h => VG.out W x (hD.out.trans (h.mono hD.out.size)) fx
      have VY : Hid (∀ W : World, Below wr.heap.size wr W → Calls Tryz.prog 18 #[.int .u64 y] W (RetG W (OfD y).d)) := fun W h => VG.out W y (hD.out.trans (h.mono hD.out.size)) fy
      obtain ⟨tp, htp⟩ : ∃ tp, tp = topx y + 1 := ⟨_, rfl⟩
      have oky := (of_fit fy).2.ok
      have EN : Hid (∀ (W : World) (b : Bool) (A : Option Addr) (n c : Nat) (z : Int), GV W b A n c z (OfD y).d → Calls Tryz.prog 58 #[.agg #[.bool b, .slice A n c, .int .i64 z]] W (DC.RetB W (.int .i64 tp))) := fun W b A n c z h => end_g (W0 := W) b A n c z _ tp W h (HM.out y my) ⟨oky.2.2.2.2.1, oky.2.2.2.2.2⟩ (by rw [htp]; unfold topx; omega)
      have HC : Hid ((topx (L.getD j 0) < lowx (L.getD k 0)) ↔ ¬ tp > (OfD x).d.x) := by
        show _ ↔ _
        rw [hx, hy, htp]; unfold lowx; omega
      have HK := Lib.hid hkL
      obtain ⟨dx, hdx⟩ : ∃ d, d = (OfD x).d := ⟨_, rfl⟩
      obtain ⟨dy, hdy⟩ : ∃ d, d = (OfD y).d := ⟨_, rfl⟩
      rw [← hdx] at VX HC
      rw [← hdy] at VY EN
      clear hx hy mx my fx fy oky htp hdx hdy hj hkL hjL
      go_upto_region 5 with fail
      have D : Below wr.heap.size wr wr.drew := (Below.refl _ _).drew
      by_cases hc : tp > dx.x
      · (refine wp_region_L (S := fun w' => w'.cell? (ad.add j) = some (.int .u64 y) ∧ w'.cell? (ad.add k) = some (.int .u64 x)) (nl := 1000000) (by kernel_rfl) ?_ (fun hHeld => ?_); focus (exact CJ.out _ D))
        (refine wpAnyL_take (i := 0) (oi := _) (v := ?_) rfl (by kernel_rfl) (by kernel_rfl) (by kernel_rfl) (fun _ _ _ h => h) (Or.inl ⟨by first | rfl | kernel_rfl, ?hy1⟩) (by assumption) ?rs1; (case hy1 => (intro w hSw; (try dsimp only at hSw); go_simp; first | done | with_reducible rfl)); case' rs1 => (simp only [List.getElem_toArray, List.getElem_cons_zero, List.getElem_cons_succ, Act.put, List.setIfInBounds_toArray, List.set_cons_zero, List.set_cons_succ])); (refine wpAnyL_take (i := 1) (oi := _) (v := ?_) rfl (by kernel_rfl) (by kernel_rfl) (by kernel_rfl) (fun _ _ _ h => h) (Or.inl ⟨by first | rfl | kernel_rfl, ?hy2⟩) (by assumption) ?rs2; (case hy2 => (intro w hSw; (try dsimp only at hSw); go_simp; first | done | with_reducible rfl)); case' rs2 => (simp only [List.getElem_toArray, List.getElem_cons_zero, List.getElem_cons_succ, Act.put, List.setIfInBounds_toArray, List.set_cons_zero, List.set_cons_succ])); (refine wpAnyL_take (i := 2) (oi := _) (v := ?_) rfl (by kernel_rfl) (by kernel_rfl) (by kernel_rfl) (fun _ _ _ h => h) (Or.inl ⟨by first | rfl | kernel_rfl, ?hy3⟩) (by assumption) ?rs3; (case hy3 => (intro w hSw; (try dsimp only at hSw); go_simp; first | done | with_reducible rfl)); case' rs3 => (simp only [List.getElem_toArray, List.getElem_cons_zero, List.getElem_cons_succ, Act.put, List.setIfInBounds_toArray, List.set_cons_zero, List.set_cons_succ])); (refine wpAnyL_take (i := 3) (oi := _) (v := ?_) rfl (by kernel_rfl) (by kernel_rfl) (by kernel_rfl) (fun _ _ _ h => h) (Or.inl ⟨by first | rfl | kernel_rfl, ?hy4⟩) (by assumption) ?rs4; (case hy4 => (intro w hSw; (try dsimp only at hSw); go_simp; first | done | with_reducible rfl)); case' rs4 => (simp only [List.getElem_toArray, List.getElem_cons_zero, List.getElem_cons_succ, Act.put, List.setIfInBounds_toArray, List.set_cons_zero, List.set_cons_succ])); (refine wpAnyL_take (i := 4) (oi := _) (v := ?_) rfl (by kernel_rfl) (by kernel_rfl) (by kernel_rfl) (fun _ _ _ h => h) (Or.inl ⟨by first | rfl | kernel_rfl, ?hy5⟩) (by assumption) ?rs5; (case hy5 => (intro w hSw; (try dsimp only at hSw); go_simp; first | done | with_reducible rfl)); case' rs5 => (simp only [List.getElem_toArray, List.getElem_cons_zero, List.getElem_cons_succ, Act.put, List.setIfInBounds_toArray, List.set_cons_zero, List.set_cons_succ])); (refine wpAnyL_take (i := 5) (oi := _) (v := ?_) rfl (by kernel_rfl) (by kernel_rfl) (by kernel_rfl) (fun _ _ _ h => h) (Or.inl ⟨by first | rfl | kernel_rfl, ?hy6⟩) (by assumption) ?rs6; (case hy6 => (intro w hSw; (try dsimp only at hSw); go_simp; first | done | with_reducible rfl)); case' rs6 => (simp only [List.getElem_toArray, List.getElem_cons_zero, List.getElem_cons_succ, Act.put, List.setIfInBounds_toArray, List.set_cons_zero, List.set_cons_succ])); (refine wpAnyL_take (i := 8) (oi := _) (v := ?_) rfl (by kernel_rfl) (by kernel_rfl) (by kernel_rfl) (fun _ _ _ h => h) (Or.inl ⟨by first | rfl | kernel_rfl, ?hy7⟩) (by assumption) ?rs7; (case hy7 => (intro w hSw; (try dsimp only at hSw); go_simp; first | done | with_reducible rfl)); case' rs7 => (simp only [List.getElem_toArray, List.getElem_cons_zero, List.getElem_cons_succ, Act.put, List.setIfInBounds_toArray, List.set_cons_zero, List.set_cons_succ])); (refine wpAnyL_take (i := 9) (oi := _) (v := ?_) rfl (by kernel_rfl) (by kernel_rfl) (by kernel_rfl) (fun _ _ _ h => h) (Or.inl ⟨by first | rfl | kernel_rfl, ?hy8⟩) (by assumption) ?rs8; (case hy8 => (intro w hSw; (try dsimp only at hSw); go_simp; first | done | with_reducible rfl)); case' rs8 => (simp only [List.getElem_toArray, List.getElem_cons_zero, List.getElem_cons_succ, Act.put, List.setIfInBounds_toArray, List.set_cons_zero, List.set_cons_succ])); (refine wpAnyL_take (i := 10) (oi := _) (v := ?_) rfl (by kernel_rfl) (by kernel_rfl) (by kernel_rfl) (fun _ _ _ h => h) (Or.inl ⟨by first | rfl | kernel_rfl, ?hy9⟩) (by assumption) ?rs9; (case hy9 => (intro w hSw; (try dsimp only at hSw); go_simp; first | done | with_reducible rfl)); case' rs9 => (simp only [List.getElem_toArray, List.getElem_cons_zero, List.getElem_cons_succ, Act.put, List.setIfInBounds_toArray, List.set_cons_zero, List.set_cons_succ])); (refine wpAnyL_take (i := 11) (oi := _) (v := ?_) rfl (by kernel_rfl) (by kernel_rfl) (by kernel_rfl) (fun _ _ _ h => h) (Or.inl ⟨by first | rfl | kernel_rfl, ?hy10⟩) (by assumption) ?rs10; (case hy10 => (intro w hSw; (try dsimp only at hSw); go_simp; first | done | with_reducible rfl)); case' rs10 => (simp only [List.getElem_toArray, List.getElem_cons_zero, List.getElem_cons_succ, Act.put, List.setIfInBounds_toArray, List.set_cons_zero, List.set_cons_succ])); skip
        (refine wpAnyL_one (i := 6) (o := _) (by kernel_rfl) rfl (fun K hK => ?_); clear hHeld; simp only [List.getElem_toArray, List.getElem_cons_zero, List.getElem_cons_succ]; go_simp; (go_at_call 18; (with_reducible refine (VY.out _ D).mono ?_); rintro e v1 ⟨b1, A1, n1, c1, t1, rfl, g1, hb⟩; have D := D.trans (hb.mono D.size); clear hb); refine hK.out _ _ ?_ (fun hHeld => ?_); focus (intro _; exact CJ.out _ D)); have hHeld := hHeld (by decide); clear hK K; (try simp only [Act.put, List.setIfInBounds_toArray, List.set_cons_zero, List.set_cons_succ])
        (refine wpAnyL_one (i := 7) (o := _) (by kernel_rfl) rfl (fun K hK => ?_); clear hHeld; simp only [List.getElem_toArray, List.getElem_cons_zero, List.getElem_cons_succ]; go_simp; (go_at_call 58; (with_reducible refine (EN.out _ _ _ _ _ _ g1).mono ?_); rintro e v2 ⟨rfl, hb⟩; have D := D.trans (hb.mono D.size); clear hb); refine hK.out _ _ ?_ (fun hHeld => ?_); focus (intro _; exact CJ.out _ D)); have hHeld := hHeld (by decide); clear hK K; (try simp only [Act.put, List.setIfInBounds_toArray, List.set_cons_zero, List.set_cons_succ])
        (refine wpAnyL_one (i := 12) (o := _) (by kernel_rfl) rfl (fun K hK => ?_); clear hHeld; simp only [List.getElem_toArray, List.getElem_cons_zero, List.getElem_cons_succ]; go_simp; (go_at_call 18; (with_reducible refine (VX.out _ D).mono ?_); rintro e v3 ⟨b3, A3, n3, c3, t3, rfl, g3, hb⟩; have D := D.trans (hb.mono D.size); obtain rfl := g3.2.2.1; clear hb g3); refine hK.out _ _ ?_ (fun hHeld => ?_); focus (intro _; exact CJ.out _ D)); have hHeld := hHeld (by decide); clear hK K; (try simp only [Act.put, List.setIfInBounds_toArray, List.set_cons_zero, List.set_cons_succ])
        have hfl : ∀ W : World, (Instr.field 26 (.agg #[.bool b3, .slice A3 n3 c3, .int .i64 dx.x]) 2).run Tryz.prog W = .ok (.int .i64 dx.x) W := fun W => field_d _ _ _ _ _ W
        (refine wpAnyL_take (i := 13) (oi := _) (v := ?_) rfl (by kernel_rfl) (by kernel_rfl) (by kernel_rfl) (fun _ _ _ h => h) (Or.inl ⟨by first | rfl | kernel_rfl, ?hy11⟩) (by assumption) ?rs11; (case hy11 => (intro w hSw; (try dsimp only at hSw); go_simp; first | done | with_reducible rfl)); case' rs11 => (simp only [List.getElem_toArray, List.getElem_cons_zero, List.getElem_cons_succ, Act.put, List.setIfInBounds_toArray, List.set_cons_zero, List.set_cons_succ])); (refine wpAnyL_take (i := 14) (oi := _) (v := ?_) rfl (by kernel_rfl) (by kernel_rfl) (by kernel_rfl) (fun _ _ _ h => h) (Or.inl ⟨by first | rfl | kernel_rfl, ?hy12⟩) (by assumption) ?rs12; (case hy12 => (intro w hSw; (try dsimp only at hSw); go_simp; first | done | with_reducible rfl)); case' rs12 => (simp only [List.getElem_toArray, List.getElem_cons_zero, List.getElem_cons_succ, Act.put, List.setIfInBounds_toArray, List.set_cons_zero, List.set_cons_succ])); skip
        refine wpAnyL_done (by kernel_rfl) ?_ _
        have D := Lib.hid (hD.out.trans (D.mono hD.out.size))
        have e3 : R = false := by
          cases hR : R
          · rfl
          · exact absurd (HR.out.1 hR k j HK.out HJ.out.symm) (fun q => HC.out.1 q hc)
        subst e3
        clear hHeld
        go_wp2
        go_ret
        exact ⟨rfl, D.out⟩
      · (refine wp_region_L (S := fun w' => w'.cell? (ad.add j) = some (.int .u64 y) ∧ w'.cell? (ad.add k) = some (.int .u64 x)) (nl := 1000000) (by kernel_rfl) ?_ (fun hHeld => ?_); focus (exact CJ.out _ D))
        (refine wpAnyL_take (i := 0) (oi := _) (v := ?_) rfl (by kernel_rfl) (by kernel_rfl) (by kernel_rfl) (fun _ _ _ h => h) (Or.inl ⟨by first | rfl | kernel_rfl, ?hy13⟩) (by assumption) ?rs13; (case hy13 => (intro w hSw; (try dsimp only at hSw); go_simp; first | done | with_reducible rfl)); case' rs13 => (simp only [List.getElem_toArray, List.getElem_cons_zero, List.getElem_cons_succ, Act.put, List.setIfInBounds_toArray, List.set_cons_zero, List.set_cons_succ])); (refine wpAnyL_take (i := 1) (oi := _) (v := ?_) rfl (by kernel_rfl) (by kernel_rfl) (by kernel_rfl) (fun _ _ _ h => h) (Or.inl ⟨by first | rfl | kernel_rfl, ?hy14⟩) (by assumption) ?rs14; (case hy14 => (intro w hSw; (try dsimp only at hSw); go_simp; first | done | with_reducible rfl)); case' rs14 => (simp only [List.getElem_toArray, List.getElem_cons_zero, List.getElem_cons_succ, Act.put, List.setIfInBounds_toArray, List.set_cons_zero, List.set_cons_succ])); (refine wpAnyL_take (i := 2) (oi := _) (v := ?_) rfl (by kernel_rfl) (by kernel_rfl) (by kernel_rfl) (fun _ _ _ h => h) (Or.inl ⟨by first | rfl | kernel_rfl, ?hy15⟩) (by assumption) ?rs15; (case hy15 => (intro w hSw; (try dsimp only at hSw); go_simp; first | done | with_reducible rfl)); case' rs15 => (simp only [List.getElem_toArray, List.getElem_cons_zero, List.getElem_cons_succ, Act.put, List.setIfInBounds_toArray, List.set_cons_zero, List.set_cons_succ])); (refine wpAnyL_take (i := 3) (oi := _) (v := ?_) rfl (by kernel_rfl) (by kernel_rfl) (by kernel_rfl) (fun _ _ _ h => h) (Or.inl ⟨by first | rfl | kernel_rfl, ?hy16⟩) (by assumption) ?rs16; (case hy16 => (intro w hSw; (try dsimp only at hSw); go_simp; first | done | with_reducible rfl)); case' rs16 => (simp only [List.getElem_toArray, List.getElem_cons_zero, List.getElem_cons_succ, Act.put, List.setIfInBounds_toArray, List.set_cons_zero, List.set_cons_succ])); (refine wpAnyL_take (i := 4) (oi := _) (v := ?_) rfl (by kernel_rfl) (by kernel_rfl) (by kernel_rfl) (fun _ _ _ h => h) (Or.inl ⟨by first | rfl | kernel_rfl, ?hy17⟩) (by assumption) ?rs17; (case hy17 => (intro w hSw; (try dsimp only at hSw); go_simp; first | done | with_reducible rfl)); case' rs17 => (simp only [List.getElem_toArray, List.getElem_cons_zero, List.getElem_cons_succ, Act.put, List.setIfInBounds_toArray, List.set_cons_zero, List.set_cons_succ])); (refine wpAnyL_take (i := 5) (oi := _) (v := ?_) rfl (by kernel_rfl) (by kernel_rfl) (by kernel_rfl) (fun _ _ _ h => h) (Or.inl ⟨by first | rfl | kernel_rfl, ?hy18⟩) (by assumption) ?rs18; (case hy18 => (intro w hSw; (try dsimp only at hSw); go_simp; first | done | with_reducible rfl)); case' rs18 => (simp only [List.getElem_toArray, List.getElem_cons_zero, List.getElem_cons_succ, Act.put, List.setIfInBounds_toArray, List.set_cons_zero, List.set_cons_succ])); (refine wpAnyL_take (i := 8) (oi := _) (v := ?_) rfl (by kernel_rfl) (by kernel_rfl) (by kernel_rfl) (fun _ _ _ h => h) (Or.inl ⟨by first | rfl | kernel_rfl, ?hy19⟩) (by assumption) ?rs19; (case hy19 => (intro w hSw; (try dsimp only at hSw); go_simp; first | done | with_reducible rfl)); case' rs19 => (simp only [List.getElem_toArray, List.getElem_cons_zero, List.getElem_cons_succ, Act.put, List.setIfInBounds_toArray, List.set_cons_zero, List.set_cons_succ])); (refine wpAnyL_take (i := 9) (oi := _) (v := ?_) rfl (by kernel_rfl) (by kernel_rfl) (by kernel_rfl) (fun _ _ _ h => h) (Or.inl ⟨by first | rfl | kernel_rfl, ?hy20⟩) (by assumption) ?rs20; (case hy20 => (intro w hSw; (try dsimp only at hSw); go_simp; first | done | with_reducible rfl)); case' rs20 => (simp only [List.getElem_toArray, List.getElem_cons_zero, List.getElem_cons_succ, Act.put, List.setIfInBounds_toArray, List.set_cons_zero, List.set_cons_succ])); (refine wpAnyL_take (i := 10) (oi := _) (v := ?_) rfl (by kernel_rfl) (by kernel_rfl) (by kernel_rfl) (fun _ _ _ h => h) (Or.inl ⟨by first | rfl | kernel_rfl, ?hy21⟩) (by assumption) ?rs21; (case hy21 => (intro w hSw; (try dsimp only at hSw); go_simp; first | done | with_reducible rfl)); case' rs21 => (simp only [List.getElem_toArray, List.getElem_cons_zero, List.getElem_cons_succ, Act.put, List.setIfInBounds_toArray, List.set_cons_zero, List.set_cons_succ])); (refine wpAnyL_take (i := 11) (oi := _) (v := ?_) rfl (by kernel_rfl) (by kernel_rfl) (by kernel_rfl) (fun _ _ _ h => h) (Or.inl ⟨by first | rfl | kernel_rfl, ?hy22⟩) (by assumption) ?rs22; (case hy22 => (intro w hSw; (try dsimp only at hSw); go_simp; first | done | with_reducible rfl)); case' rs22 => (simp only [List.getElem_toArray, List.getElem_cons_zero, List.getElem_cons_succ, Act.put, List.setIfInBounds_toArray, List.set_cons_zero, List.set_cons_succ])); skip
        (refine wpAnyL_one (i := 6) (o := _) (by kernel_rfl) rfl (fun K hK => ?_); clear hHeld; simp only [List.getElem_toArray, List.getElem_cons_zero, List.getElem_cons_succ]; go_simp; (go_at_call 18; (with_reducible refine (VY.out _ D).mono ?_); rintro e v1 ⟨b1, A1, n1, c1, t1, rfl, g1, hb⟩; have D := D.trans (hb.mono D.size); clear hb); refine hK.out _ _ ?_ (fun hHeld => ?_); focus (intro _; exact CJ.out _ D)); have hHeld := hHeld (by decide); clear hK K; (try simp only [Act.put, List.setIfInBounds_toArray, List.set_cons_zero, List.set_cons_succ])
        (refine wpAnyL_one (i := 7) (o := _) (by kernel_rfl) rfl (fun K hK => ?_); clear hHeld; simp only [List.getElem_toArray, List.getElem_cons_zero, List.getElem_cons_succ]; go_simp; (go_at_call 58; (with_reducible refine (EN.out _ _ _ _ _ _ g1).mono ?_); rintro e v2 ⟨rfl, hb⟩; have D := D.trans (hb.mono D.size); clear hb); refine hK.out _ _ ?_ (fun hHeld => ?_); focus (intro _; exact CJ.out _ D)); have hHeld := hHeld (by decide); clear hK K; (try simp only [Act.put, List.setIfInBounds_toArray, List.set_cons_zero, List.set_cons_succ])
        (refine wpAnyL_one (i := 12) (o := _) (by kernel_rfl) rfl (fun K hK => ?_); clear hHeld; simp only [List.getElem_toArray, List.getElem_cons_zero, List.getElem_cons_succ]; go_simp; (go_at_call 18; (with_reducible refine (VX.out _ D).mono ?_); rintro e v3 ⟨b3, A3, n3, c3, t3, rfl, g3, hb⟩; have D := D.trans (hb.mono D.size); obtain rfl := g3.2.2.1; clear hb g3); refine hK.out _ _ ?_ (fun hHeld => ?_); focus (intro _; exact CJ.out _ D)); have hHeld := hHeld (by decide); clear hK K; (try simp only [Act.put, List.setIfInBounds_toArray, List.set_cons_zero, List.set_cons_succ])
        have hfl : ∀ W : World, (Instr.field 26 (.agg #[.bool b3, .slice A3 n3 c3, .int .i64 dx.x]) 2).run Tryz.prog W = .ok (.int .i64 dx.x) W := fun W => field_d _ _ _ _ _ W
        (refine wpAnyL_take (i := 13) (oi := _) (v := ?_) rfl (by kernel_rfl) (by kernel_rfl) (by kernel_rfl) (fun _ _ _ h => h) (Or.inl ⟨by first | rfl | kernel_rfl, ?hy23⟩) (by assumption) ?rs23; (case hy23 => (intro w hSw; (try dsimp only at hSw); go_simp; first | done | with_reducible rfl)); case' rs23 => (simp only [List.getElem_toArray, List.getElem_cons_zero, List.getElem_cons_succ, Act.put, List.setIfInBounds_toArray, List.set_cons_zero, List.set_cons_succ])); (refine wpAnyL_take (i := 14) (oi := _) (v := ?_) rfl (by kernel_rfl) (by kernel_rfl) (by kernel_rfl) (fun _ _ _ h => h) (Or.inl ⟨by first | rfl | kernel_rfl, ?hy24⟩) (by assumption) ?rs24; (case hy24 => (intro w hSw; (try dsimp only at hSw); go_simp; first | done | with_reducible rfl)); case' rs24 => (simp only [List.getElem_toArray, List.getElem_cons_zero, List.getElem_cons_succ, Act.put, List.setIfInBounds_toArray, List.set_cons_zero, List.set_cons_succ])); skip
        refine wpAnyL_done (by kernel_rfl) ?_ _
        have D := Lib.hid (hD.out.trans (D.mono hD.out.size))
        have HP1 : Hid (∀ i m, i < k + 1 → m + 1 = i → topx (L.getD m 0) < lowx (L.getD i 0)) := fun i m hi hm => by
          rcases Nat.lt_or_ge i k with q | q
          · exact hP.out i m q hm
          · obtain rfl : i = k := by omega
            obtain rfl : m = j := by have := HJ.out; omega
            exact HC.out.2 hc
        clear hHeld
        go_wp2
        exact ⟨⟨k + 1, by omega, .inr (by omega), by simp, HP1.out, D.out⟩, by simp only [intOf]; omega⟩
    · have e0 : R = true := by
        rw [HR.out]
        intro i j hi hj
        rw [← HN.out] at hi
        exact hP.out i j (by omega) hj
      subst e0
      go_wp2
      go_ret
      exact ⟨rfl, hD.out⟩
set_option maxRecDepth 100000 in
set_option maxHeartbeats 4000000 in
theorem Check_g (A : Option Addr) (n c : Nat) (L : List Int) (w : World) (hs : Sl .u64 w (.slice A n c) L) (hu : u64s L) (hl : L.length ≤ 9223372036854775807) (hT : TabD w) :
    Calls Tryz.prog 9 #[.slice A n c] w (DC.RetB w (.int .i64 (gCk L))) := by
  have hn := sl_len hs
  have D := Lib.hid (Below.refl w.heap.size w)
  by_cases hl6 : 60 < n
  · have e : gCk L = 2 := by unfold gCk; rw [if_pos (by omega)]
    rw [e]
    have h6 : (n : Int) > 60 := by omega
    clear e hs hu hn hl6 hT
    go_enter Tryz.func9, Tryz.ntmps9
    go_wp2
    go_ret
    exact ⟨rfl, D.out⟩
  · have h6 : ¬ (n : Int) > 60 := by omega
    have l60 : L.length ≤ 60 := by omega
    obtain ⟨R1, hR1⟩ : ∃ R, (L.any fun x => decide (F.exq x = 2047)) = R := ⟨_, rfl⟩
    have C1 := Lib.hid (Contains_lv A n c L (fun x => decide (F.exq x = 2047)) R1 w hs l60 hR1 fun W x hW hx => lacksValue_g x W (hu x hx) (hT.below hW))
    cases R1
    · have hf : ∀ x ∈ L, fi x := fun x hx => ⟨(hu x hx).1, (hu x hx).2, by have := (List.any_eq_false.1 hR1) x hx; simpa using this⟩
      obtain ⟨R2, hR2⟩ : ∃ R, (L.any fun x => decide (F.cls x = 1)) = R := ⟨_, rfl⟩
      have C2 : Hid (∀ W : World, Below w.heap.size w W → Calls Tryz.prog 30 #[.slice A n c, .func (.func 22) #[] #[]] W (DC.RetB W (.bool R2))) := fun W hW => Contains_iz A n c L (fun x => decide (F.cls x = 1)) R2 W (hs.below hW) l60 hR2 fun W' x hW' hx => isZero_g x W' (hu x hx)
      cases R2
      · have hm : ∀ x ∈ L, (OfD x).d.m ≠ 0 := fun x hx q => by
          have := (List.any_eq_false.1 hR2) x hx
          simp only [decide_eq_true_eq] at this
          exact this ((cls_m (hf x hx)).2 q)
        have C3 : Hid (∀ W : World, Below w.heap.size w W → Calls Tryz.prog 31 #[.slice A n c] W (DC.RetB W (.bool (decide (isX L))))) := fun W hW => apart_g A n c L _ W (hs.below hW) hf hm l60 (by simp) (hT.below hW)
        by_cases hX : isX L
        · have e : gCk L = 0 := gCk_0.2 ⟨l60, hX⟩
          rw [e]
          rw [decide_eq_true hX] at C3
          clear e hX hm hf hs hu hn hl6 hT hR1 hR2 hl l60
          go_enter Tryz.func9, Tryz.ntmps9
          go_wp2_with (first
            | (go_at_call 30; (with_reducible refine (C1.out).mono ?_); rintro e w1 ⟨rfl, hb⟩; have D := Lib.hid hb; clear hb C1)
            | (go_at_call 30; (with_reducible refine (C2.out _ D.out).mono ?_); rintro e w1 ⟨rfl, hb⟩; have D := Lib.hid (D.out.trans (hb.mono D.out.size)); clear hb)
            | (go_at_call 31; (with_reducible refine (C3.out _ D.out).mono ?_); rintro e w1 ⟨rfl, hb⟩; have D := Lib.hid (D.out.trans (hb.mono D.out.size)); clear hb))
          go_ret
          exact ⟨rfl, D.out⟩
        · have e : gCk L = 3 := gck_3 l60 hf hX
          rw [e]
          rw [decide_eq_false hX] at C3
          clear e hX hm hf hs hu hn hl6 hT hR1 hR2 hl l60
          go_enter Tryz.func9, Tryz.ntmps9
          go_wp2_with (first
            | (go_at_call 30; (with_reducible refine (C1.out).mono ?_); rintro e w1 ⟨rfl, hb⟩; have D := Lib.hid hb; clear hb C1)
            | (go_at_call 30; (with_reducible refine (C2.out _ D.out).mono ?_); rintro e w1 ⟨rfl, hb⟩; have D := Lib.hid (D.out.trans (hb.mono D.out.size)); clear hb)
            | (go_at_call 31; (with_reducible refine (C3.out _ D.out).mono ?_); rintro e w1 ⟨rfl, hb⟩; have D := Lib.hid (D.out.trans (hb.mono D.out.size)); clear hb))
          go_ret
          exact ⟨rfl, D.out⟩
      · have e : gCk L = 3 := gck_3 l60 hf fun q => by
          obtain ⟨x, hx, h⟩ := List.any_eq_true.1 hR2
          simp only [decide_eq_true_eq] at h
          obtain ⟨k, hk, e⟩ := List.mem_iff_getElem.1 hx
          have := (isX_at.1 q k hk).2.1
          rw [List.getD_eq_getElem?_getD, List.getElem?_eq_getElem hk] at this
          exact this (by show (OfD L[k]).d.m = 0; rw [e]; exact (cls_m (hf x hx)).1 h)
        rw [e]
        clear e hf hs hu hn hl6 hT hR1 hR2 hl l60
        go_enter Tryz.func9, Tryz.ntmps9
        go_wp2_with (first
          | (go_at_call 30; (with_reducible refine (C1.out).mono ?_); rintro e w1 ⟨rfl, hb⟩; have D := Lib.hid hb; clear hb C1)
          | (go_at_call 30; (with_reducible refine (C2.out _ D.out).mono ?_); rintro e w1 ⟨rfl, hb⟩; have D := Lib.hid (D.out.trans (hb.mono D.out.size)); clear hb))
        go_ret
        exact ⟨rfl, D.out⟩
    · have e : gCk L = 4 := gck_4 l60 (by
        obtain ⟨x, hx, h⟩ := List.any_eq_true.1 hR1
        exact ⟨x, hx, by simpa using h⟩)
      rw [e]
      clear e hs hu hn hl6 hT hR1 hl l60
      go_enter Tryz.func9, Tryz.ntmps9
      go_wp2_with (go_at_call 30; (with_reducible refine (C1.out).mono ?_); rintro e w1 ⟨rfl, hb⟩; have D := Lib.hid hb; clear hb)
      go_ret
      exact ⟨rfl, D.out⟩
end XC
end Go.Proofs.YtelblhgagpkjmaaGreatDoor
