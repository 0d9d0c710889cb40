/-
  The document's own words for expansions: the sum of all.
-/
import Derived.Test.YtelblhgagpkjmaaGreatDoorXG16
import Derived.Test.YtelblhgagpkjmaaGreatDoorXG18
namespace Go.Proofs.YtelblhgagpkjmaaGreatDoor
set_option linter.unusedVariables false
set_option linter.unusedSimpArgs false
open Go.RowKit
set_option linter.unusedVariables false
set_option linter.unusedSimpArgs false
namespace XC
open Z (Nz Tz cmpv big)
open ZC DC RC QC SC VC PC
theorem vs_lim {L : List Int} {k : Nat} {K : Int} (hK : K = 1032) (hf : ∀ x ∈ L, fi x) (hl : L.length ≤ 200) : vs (L.take k) ≤ sc 1 K ∧ -(sc 1 K) ≤ vs (L.take k) := by
  have h1 : ∀ x ∈ L.take k, fi x := fun x hx => hf x (List.mem_of_mem_take hx)
  have h2 : (L.take k).length ≤ 200 := by rw [List.length_take]; omega
  have t := tot_fit (L.take k) dz 0 h1 fit_zero (by omega)
  have e := (tot_ok h1 (by omega)).2
  have a := t.1.hi
  have b := t.1.lo
  have h3 := fit_lim (j := 0 + (L.take k).length) (t := K) (by omega) hK
  rw [e] at a b
  omega
theorem vs_take {L : List Int} {k : Nat} (h : k < L.length) : vs (L.take (k + 1)) = vs (L.take k) + val (L.getD k 0) := by
  have e : L[k]? = some (L.getD k 0) := by rw [List.getD_eq_getElem?_getD, List.getElem?_eq_getElem h]; rfl
  rw [take_snoc e, vs_append]
  simp [vs]
theorem qs_ret {M T : Nat} {w w' : World} {b A n c} {t s : Int} (h : QS M T w' (.agg #[.bool b, .slice A n c, .int .i64 t]) s) (hb : Below w.heap.size w w') : RetS M T w s (.returned (.agg #[.bool b, .slice A n c, .int .i64 t])) w' := by
  obtain ⟨z, t', ⟨b', A', n', c', e, hz⟩, k1, k2, k3, k4⟩ := h
  injection e with e
  simp at e
  obtain ⟨rfl, ⟨rfl, rfl, rfl⟩, rfl⟩ := e
  exact ⟨_, _, _, _, _, _, rfl, hz, k1, k2, k3, k4, hb⟩
set_option maxRecDepth 100000 in
set_option maxHeartbeats 16000000 in
theorem SumAll_c {M : Nat} (hM : M = 2200) (A0 : Option Addr) (n c : Nat) (L : List Int) (w : World) (hs : Sl .u64 w (.slice A0 n c) L) (hf : ∀ y ∈ L, fi y) (hl : L.length ≤ 60) :
    Calls Tryz.prog 11 #[.slice A0 n c] w (RetS 2200 1100 w (vs L)) := by
  have hn := sl_len hs
  have N0 := Blk.new w 41 #[.bool false, .slice none 0 0, .int .i64 0]
  have D00 : Below w.heap.size w (w.alloc (.cells #[.bool false, .slice none 0 0, .int .i64 0] 41)) := al2 w _
  have g00 : (w.alloc (.cells #[.bool false, .slice none 0 0, .int .i64 0] 41)).heap.size = w.heap.size + 1 := by simp
  obtain ⟨W0, hW0⟩ : ∃ W0, w.alloc (.cells #[.bool false, .slice none 0 0, .int .i64 0] 41) = W0 := ⟨_, rfl⟩
  rw [hW0] at N0 D00 g00
  have N1 := Blk.new W0 41 #[.bool false, .slice none 0 0, .int .i64 0]
  have D01 : Below W0.heap.size W0 (W0.alloc (.cells #[.bool false, .slice none 0 0, .int .i64 0] 41)) := al2 W0 _
  obtain ⟨W1, hW1⟩ : ∃ W1, W0.alloc (.cells #[.bool false, .slice none 0 0, .int .i64 0] 41) = W1 := ⟨_, rfl⟩
  rw [hW1] at N1 D01
  have KR : Hid (∀ W, Below W0.heap.size W0 W → Blk W w.heap.size 41 #[.bool false, .slice none 0 0, .int .i64 0]) := fun W h => N0.below h N0.lt
  have E0 : Hid (SI W0 W1 false none 0 0 0 0) := ⟨N1, (qs_zero W1).mono2 (by omega) (by omega), D01⟩
  have HS : Hid (∀ W : World, Below W0.heap.size W0 W → Sl .u64 W (.slice A0 n c) L) := fun W h => (hs.below D00).below h
  have HF := Lib.hid hf
  have HN := Lib.hid hn
  have QV : Hid (∀ (W : World) (x : Int), fi x → Calls Tryz.prog 25 #[.int .u64 x] W (RetSF 2200 1100 W (val x))) := fun W x h => QVal_v x W h
  have QA : Hid (∀ (W : World) (u v : Value) (s s' : Int), QS 2200 1100 W u s → QS 2200 1100 W v s' → (∀ K : Int, K = 1032 → s + s' ≤ sc 1 K ∧ -(sc 1 K) ≤ s + s') → Calls Tryz.prog 32 #[u, v] W (RetSF 2200 1100 W (s + s'))) := fun W u v s s' h1 h2 h3 => QAdd_v rfl h1 h2 (h3 1032 rfl)
  have VT : Hid (∀ (k : Nat), k < n → ∀ K : Int, K = 1032 → vs (L.take k) + val (L.getD k 0) ≤ sc 1 K ∧ -(sc 1 K) ≤ vs (L.take k) + val (L.getD k 0)) := fun k hk K hK => by
    have := vs_lim (L := L) (k := k + 1) hK hf (by omega)
    rwa [vs_take (by omega)] at this
  have HW : Hid (w.alloc (.cells #[.bool false, .slice none 0 0, .int .i64 0] 41) = W0) := hW0
  have HW' : Hid (W0.alloc (.cells #[.bool false, .slice none 0 0, .int .i64 0] 41) = W1) := hW1
  have G0 := Lib.hid g00
  have D0 := Lib.hid D00
  rw [← hn] at hl
  clear hs hf hn N0 N1 D00 D01 hW0 hW1 g00 hM
  go_enter Tryz.func11, Tryz.ntmps11
  go_wp2
  rw [HW.out, HW'.out]
  rw [← G0.out]
  go_loopw [9] (fun iv wr => ∃ (k : Nat) (b : Bool) (A1 : Option Addr) (n1 c1 : Nat) (t : Int), iv = .int .i64 k ∧ k ≤ n ∧ Hid (SI W0 wr b A1 n1 c1 t (vs (L.take k)))) (fun iv _ => n - (intOf iv).toNat)
  case atStart => exact ⟨0, _, _, _, _, _, rfl, by omega, E0.out⟩
  case round =>
    obtain ⟨k, b, A1, n1, c1, t, rfl, hk, hE⟩ := hrel
    by_cases hkn : k < n
    · have hkL : k < L.length := by rw [← HN.out]; exact hkn
      obtain ⟨ad, c', e, hc', hb, hcell⟩ := (HS.out _ hE.out.b).at_ k hkL
      injection e with e1 e2 e3
      subst e1
      clear e2 e3 hc' c' hb
      have VK := VT.out k hkn
      have HT := Lib.hid (vs_take hkL)
      obtain ⟨x, hx⟩ : ∃ x, L.getD k 0 = x := ⟨_, rfl⟩
      have fx := HF.out x (by rw [← hx, List.getD_eq_getElem?_getD, List.getElem?_eq_getElem hkL]; exact List.getElem_mem _)
      rw [hx] at hcell VK HT
      have VK := Lib.hid VK
      have FX := Lib.hid fx
      clear hx fx hkL
      go_upto_region 5 with fail
      have KB : Hid (∀ W, Below wr.heap.size wr W → SI W0 W b A1 n1 c1 t (vs (L.take k))) := fun W h => hE.out.below h
      have gl : Hid (W0.heap.size < wr.heap.size) := hE.out.k.lt
      have D : Below wr.heap.size wr wr.drew := (Below.refl _ _).drew
      clear hcell
      (refine wp_region_L (S := fun w' => w'.cell? ⟨W0.heap.size, 0, none⟩ = some (.bool b) ∧ w'.cell? ⟨W0.heap.size, 1, none⟩ = some (.slice A1 n1 c1) ∧ w'.cell? ⟨W0.heap.size, 2, none⟩ = some (.int .i64 t)) (nl := 4) (by kernel_rfl) ?_ (fun hHeld => ?_); focus (have q := (KB.out _ D).k; exact ⟨q.at_ 0 rfl, q.at_ 1 rfl, q.at_ 2 rfl⟩))
      (refine wpAnyL_take (i := 0) (oi := _) (v := ?_) rfl (by kernel_rfl) (by kernel_rfl) (by kernel_rfl) (fun _ _ _ h => h) (Or.inl ⟨by first | rfl | kernel_rfl, ?hy1⟩) (by assumption) ?rs1; (case hy1 => (intro w hSw; (try dsimp only at hSw); go_simp; first | done | with_reducible rfl)); case' rs1 => (simp only [List.getElem_toArray, List.getElem_cons_zero, List.getElem_cons_succ, Act.put, List.setIfInBounds_toArray, List.set_cons_zero, List.set_cons_succ])); (refine wpAnyL_take (i := 1) (oi := _) (v := ?_) rfl (by kernel_rfl) (by kernel_rfl) (by kernel_rfl) (fun _ _ _ h => h) (Or.inl ⟨by first | rfl | kernel_rfl, ?hy2⟩) (by assumption) ?rs2; (case hy2 => (intro w hSw; (try dsimp only at hSw); go_simp; first | done | with_reducible rfl)); case' rs2 => (simp only [List.getElem_toArray, List.getElem_cons_zero, List.getElem_cons_succ, Act.put, List.setIfInBounds_toArray, List.set_cons_zero, List.set_cons_succ])); skip
      (refine wpAnyL_one (i := 2) (o := _) (by kernel_rfl) rfl (fun K hK => ?_); clear hHeld; simp only [List.getElem_toArray, List.getElem_cons_zero, List.getElem_cons_succ]; go_simp; (go_at_call 25; (with_reducible refine (QV.out _ _ FX.out).mono ?_); rintro e v1 ⟨b1, B1, m1, d1, t1, z1, rfl, hz, k1, k2, k3, k4, hf, hb⟩; have D := D.trans (hb.mono D.size); have Q1 := RetS.qs hz k1 k2 k3 k4; clear hz k1 k2 k3 k4 hf hb); refine hK.out _ _ ?_ (fun hHeld => ?_); focus (intro _; have q := (KB.out _ D).k; exact ⟨q.at_ 0 rfl, q.at_ 1 rfl, q.at_ 2 rfl⟩)); have hHeld := hHeld (by decide); clear hK K; (try simp only [Act.put, List.setIfInBounds_toArray, List.set_cons_zero, List.set_cons_succ])
      (refine wpAnyL_one (i := 3) (o := _) (by kernel_rfl) rfl (fun K hK => ?_); clear hHeld; simp only [List.getElem_toArray, List.getElem_cons_zero, List.getElem_cons_succ]; go_simp; (go_at_call 32; (with_reducible refine (QA.out _ _ _ _ _ (KB.out _ D).q Q1 VK.out).mono ?_); rintro e v2 ⟨b2, A2, n2, c2, t2, z2, rfl, hz2, y1, y2, y3, y4, hfr, hb⟩; have E5 := (KB.out _ D).below hb; have E6 := E5.set hb (Nat.lt_of_lt_of_le gl.out D.size) hz2 y1 y2 y3 y4 hfr; have D := D.trans (hb.mono D.size); clear hz2 y1 y2 y3 y4 hfr hb Q1); refine hK.out _ _ ?_ (fun hHeld => ?_); focus (intro _; have q := (KB.out _ D).k; exact ⟨q.at_ 0 rfl, q.at_ 1 rfl, q.at_ 2 rfl⟩)); have hHeld := hHeld (by decide); clear hK K; (try simp only [Act.put, List.setIfInBounds_toArray, List.set_cons_zero, List.set_cons_succ])
      rw [← HT.out] at E6
      have E6 := Lib.hid E6
      have s0 := E5.k.at_ 0 rfl; have s1 := E5.k.at_ 1 rfl; have s2 := E5.k.at_ 2 rfl; have f0 := E5.k.frozen 0; have f1 := E5.k.frozen 1; have f2 := E5.k.frozen 2
      clear E5
      (refine wpAnyL_one (i := 4) (o := _) (by kernel_rfl) rfl (fun K hK => ?_); clear hHeld; simp only [List.getElem_toArray, List.getElem_cons_zero, List.getElem_cons_succ]; go_simp; refine hK.out _ _ ?_ (fun hHeld => ?_); focus (intro h; exact absurd h (by decide))); clear hK K; (try simp only [Act.put, List.setIfInBounds_toArray, List.set_cons_zero, List.set_cons_succ])
      refine wpAnyL_done (by kernel_rfl) ?_ _
      clear s0 s1 s2 f0 f1 f2 D KB hE
      go_wp2
      exact ⟨⟨k + 1, _, _, _, _, _, by simp, by omega, E6.out⟩, by simp only [intOf]; omega⟩
    · obtain rfl : n = k := by omega
      have hE1 := hE.out
      rw [List.take_of_length_le (by rw [← HN.out]; omega)] at hE1
      have R := KR.out _ hE1.b
      have X := Lib.hid (qs_ret (w := w) (qres_set hE1.q R) (below3q (D0.out.trans (hE1.b.mono D0.out.size)) (Nat.le_refl _) (.bool b) (.slice A1 n1 c1) (.int .i64 t)))
      have p0 := hE1.k.at_ 0 rfl; have p1 := hE1.k.at_ 1 rfl; have p2 := hE1.k.at_ 2 rfl
      have t0 := R.at_ 0 rfl; have t1' := R.at_ 1 rfl; have t2' := R.at_ 2 rfl; have f0 := R.frozen 0; have f1 := R.frozen 1; have f2 := R.frozen 2
      clear hE1 R hE
      go_wp2
      exact bodyPost_ret (v := .agg #[.bool b, .slice A1 n1 c1, .int .i64 t]) (by simp [results, Tryz.results11, go_sem, t0, t1', t2']) rfl X.out
end XC
end Go.Proofs.YtelblhgagpkjmaaGreatDoor
