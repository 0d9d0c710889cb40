/-
  ProdDot: the walk.
-/
import Derived.Test.YtjplemfdhhkbaaaDoorP9
import Derived.Test.YtjplemfdhhkbaaaDoorP10
namespace Go.Proofs.YtjplemfdhhkbaaaDoor
set_option linter.unusedVariables false
set_option linter.unusedSimpArgs false
open Go.RowKit
set_option linter.unusedVariables false
set_option linter.unusedSimpArgs false
namespace PC
open Z (Nz Tz cmpv big)
open ZC DC RC QC SC VC
/-- what the loop keeps: the box of the sum, its value -/
structure DQ (w W : World) (g : Nat) (b : Bool) (A : Option Addr) (n c : Nat) (t s : Int) : Prop where
  k : Blk W g 42 #[.bool b, .slice A n c, .int .i64 t]
  q : QS 4400 2200 W (.agg #[.bool b, .slice A n c, .int .i64 t]) s
  b : Below w.heap.size w W
theorem DQ.below {w W W' : World} {g : Nat} {b A n c t s} (h : DQ w W g b A n c t s) (hb : Below W.heap.size W W') : DQ w W' g b A n c t s := ⟨h.k.below hb h.k.lt, h.q.below hb, h.b.trans (hb.mono h.b.size)⟩
theorem DQ.drew {w W : World} {g : Nat} {b A n c t s} (h : DQ w W g b A n c t s) : DQ w W.drew g b A n c t s := h.below (Below.refl _ _).drew
theorem DQ.set {w W V : World} {g : Nat} {b A n c t s b' A' n' c'} {t' z' s' : Int} (h : DQ w W g b A n c t s) (hw : w.heap.size ≤ g) (hg : g < V.heap.size) (hz : ZL W b' A' n' c' z') (k1 : z'.natAbs < 2 ^ 4400) (k2 : 0 ≤ t') (k3 : t' ≤ 2200) (k4 : sc z' (-t') = s') (hf : Fr V.heap.size A' n') :
    DQ w (((W.setCell ⟨g, 0, none⟩ (.bool b')).setCell ⟨g, 1, none⟩ (.slice A' n' c')).setCell ⟨g, 2, none⟩ (.int .i64 t')) g b' A' n' c' t' s' :=
  ⟨blk3 h.k _ _ _, ⟨z', t', ⟨b', A', n', c', rfl, QC.set3 hz (off_new hf hg) _ _ _⟩, k1, k2, k3, k4⟩, below3q h.b hw _ _ _⟩
theorem ps_lim {M : List Int} {K : Int} (hK : K = 2056) (hf : ∀ x ∈ M, fi x) (hl : M.length ≤ 200) : ps M ≤ sc 1 K ∧ -(sc 1 K) ≤ ps M := by
  have h := pt_fit M dz 0 hf fitP_zero (by omega)
  have k := fit_k h.1 (by omega) hK
  rw [h.2, show S dz = 0 from sc_zero.2 rfl] at k
  omega
theorem row_qv {w : World} {a : Option Addr} {n c : Nat} {zs : List Int}
    (h : (a = none ∧ n = 0 ∧ c = 0 ∧ zs = []) ∨ ∃ x, a = some x ∧ n ≤ c ∧ c ≤ maxLen ∧ zs.length = c ∧ (∀ i, i < zs.length → w.cell? (x.add i) = some (.int .u64 (zs.getD i 0))) ∧ ∀ n ∈ zs, (Lit.int .u64 n).wf = true) :
    Sl .u64 w (.slice a n c) (zs.take n) ∧ u64s (zs.take n) ∧ (zs.take n).length = n ∧ ((a = none ∧ n = 0 ∧ c = 0) ∨ ∃ ad, a = some ad) := by
  rcases h with ⟨rfl, rfl, rfl, rfl⟩ | ⟨x, rfl, hn, hc, hz, hcell, hwf⟩
  · exact ⟨Sl.nil _ _ _ _, (by intro x hx; simp at hx), by simp, .inl ⟨rfl, rfl, rfl⟩⟩
  · have hl : (zs.take n).length = n := by rw [List.length_take, hz]; exact Nat.min_eq_left hn
    refine ⟨⟨some x, c, by rw [hl], by rw [hl]; exact hn, ?_⟩, fun d hd => wfb_u64 (hwf d (List.mem_of_mem_take hd)), hl, .inr ⟨x, rfl⟩⟩
    by_cases h0 : n = 0
    · left; subst h0; simp
    · right
      refine ⟨x, rfl, ?_, fun j hj => ?_⟩
      · have := World.block_lt_of_cell? w _ (hcell 0 (by omega))
        rwa [block_of_add] at this
      · rw [hl] at hj
        rw [hcell j (by omega), List.getElem_take, List.getD_eq_getElem?_getD, List.getElem?_eq_getElem (by omega)]; rfl
/-- the state behind k numbers -/
def stt (L : List Int) (k : Nat) (say s : Int) : Prop := (say = 0 ∧ (∀ z ∈ L.take k, fi z) ∧ s = ps (L.take (2 * (k / 2)))) ∨ (say = 4 ∧ nf (L.take k) = true)
theorem take_snoc' {L : List Int} {k : Nat} (hk : k < L.length) : L.take (k + 1) = L.take k ++ [L.getD k 0] := by
  rw [List.take_add_one, List.getD_eq_getElem?_getD, List.getElem?_eq_getElem hk]; rfl
theorem nf_append (a b : List Int) : nf (a ++ b) = (nf a || nf b) := by unfold nf; simp
theorem stt_bad {L : List Int} {k : Nat} {say s : Int} (hk : k < L.length) (h : stt L k say s) (hx : F.exq (L.getD k 0) = 2047) : stt L (k + 1) 4 s := by
  right
  refine ⟨rfl, ?_⟩
  rw [take_snoc' hk, nf_append]
  have : nf [L.getD k 0] = true := by unfold nf; simp; exact hx
  rw [this]; simp
theorem stt_four {L : List Int} {k : Nat} {s s' : Int} (hk : k < L.length) (h : stt L k 4 s) : stt L (k + 1) 4 s' := by
  rcases h with ⟨h, -⟩ | ⟨-, h⟩
  · cases h
  · right; exact ⟨rfl, by rw [take_snoc' hk, nf_append, h]; rfl⟩
theorem stt_even {L : List Int} {k : Nat} {s : Int} (hk : k < L.length) (h : stt L k 0 s) (hx : fi (L.getD k 0)) (h2 : k % 2 = 0) : stt L (k + 1) 0 s := by
  rcases h with ⟨-, h, e⟩ | ⟨h, -⟩
  · left
    refine ⟨rfl, fun z hz => ?_, ?_⟩
    · rw [take_snoc' hk] at hz
      rcases List.mem_append.1 hz with hz | hz
      · exact h z hz
      · simp at hz; subst hz; simpa using hx
    · rw [e, show 2 * ((k + 1) / 2) = 2 * (k / 2) by omega]
  · cases h
theorem stt_odd {L : List Int} {j : Nat} {s : Int} (hk : j + 1 < L.length) (h : stt L (j + 1) 0 s) (hx : fi (L.getD (j + 1) 0)) (h2 : j % 2 = 0) : fi (L.getD j 0) ∧ stt L (j + 1 + 1) 0 (s + S (PD (L.getD j 0) (L.getD (j + 1) 0)).d) := by
  rcases h with ⟨-, h, e⟩ | ⟨h, -⟩
  · have e1 := take_snoc' (L := L) (k := j) (by omega)
    have fj : fi (L.getD j 0) := h _ (by rw [e1]; simp)
    refine ⟨fj, .inl ⟨rfl, fun z hz => ?_, ?_⟩⟩
    · rw [take_snoc' hk] at hz
      rcases List.mem_append.1 hz with hz | hz
      · exact h z hz
      · simp at hz; subst hz; simpa using hx
    · rw [show 2 * ((j + 1 + 1) / 2) = j + 1 + 1 by omega, take_snoc' hk, e1, e, show 2 * ((j + 1) / 2) = j by omega, List.append_assoc, ps_append _ _ (by rw [List.length_take]; omega)]
      simp [ps]
  · cases h
theorem Between_any (mode : Int) (W : World) : Calls Tryd.prog 24 #[.int .i64 mode, .int .i64 0, .int .i64 4] W fun e w' => e = .returned (.bool (decide (0 ≤ mode ∧ mode ≤ 4))) ∧ W = w' := by
  by_cases h : 0 ≤ mode ∧ mode ≤ 4
  · rw [decide_eq_true h]; exact FloatR.Between_t mode 0 4 h.1 h.2 W
  · rw [decide_eq_false h]; exact FloatR.Between_f mode 0 4 (by omega) W
set_option maxRecDepth 100000 in
set_option maxHeartbeats 8000000 in
theorem dotSays_c (A : Option Addr) (n c : Nat) (L : List Int) (mode : Int) (w : World) (hs : Sl .u64 w (.slice A n c) L) (hu : u64s L) (hl : L.length ≤ 17592186043904) (hT : NC.TabD w) :
    Calls Tryd.prog 6 #[.slice A n c, .int .i64 mode] w fun e w' => e = .returned (.bool true) ∧ Below w.heap.size w w' := by
  have HS : Hid (∀ W : World, Below w.heap.size w W → Sl .u64 W (.slice A n c) L) := fun W hW => hs.below hW
  have hn := hs.len_.1
  have A1 : Hid (Calls Tryd.prog 41 #[.slice A n c, .int .i64 mode] w (DC.RetB w (ATv (DT L mode)))) := Dot_c A n c L mode w hs hu (by omega) hT
  have BT : Hid (∀ W : World, Calls Tryd.prog 24 #[.int .i64 mode, .int .i64 0, .int .i64 4] W fun e w' => e = .returned (.bool (decide (0 ≤ mode ∧ mode ≤ 4))) ∧ W = w') := fun W => Between_any mode W
  have HN := Lib.hid hn
  have HU := Lib.hid hu
  have hn63 : (n : Int) ≤ 17592186043904 := by omega
  unfold ATv at A1
  by_cases hm : 0 ≤ mode ∧ mode ≤ 4
  · rw [decide_eq_true hm] at BT
    by_cases h2 : L.length % 2 = 0
    · have hn2 : (n : Int) % 2 = 0 := by omega
      by_cases h3 : 200 < L.length
      · rw [DT_large hm h2 h3] at A1
        have h3' : (n : Int) > 200 := by omega
        clear hm h2 h3 hs hu hl hn hT
        go_enter Tryd.func6, Tryd.ntmps6
        go_wp2_with (first
          | (go_at_call 41; (with_reducible refine (A1.out).mono ?_); rintro e w1 ⟨rfl, hb⟩; have D := Lib.hid hb; clear hb)
          | (go_at_call 24; (with_reducible refine (BT.out _).mono ?_); rintro e w2 ⟨rfl, rfl⟩))
        go_ret
        exact ⟨rfl, D.out.alloc D.out.size _⟩
      · have h3' : ¬ (n : Int) > 200 := by omega
        have H2 := Lib.hid h2
        have HM := Lib.hid hm
        have H3 : Hid (L.length ≤ 200) := by show _ ≤ _; omega
        obtain ⟨dt, hdt⟩ : ∃ dt, DT L mode = dt := ⟨_, rfl⟩
        rw [hdt] at A1
        obtain ⟨x, lo, er⟩ := dt
        have HDT := Lib.hid hdt
        dsimp only at A1
        clear hm h2 h3 hs hu hl hn hT hdt
        go_enter Tryd.func6, Tryd.ntmps6
        go_wp2_with (first
          | (go_at_call 41; (with_reducible refine (A1.out).mono ?_); rintro e w1 ⟨rfl, hb⟩; have D := Lib.hid hb; clear hb)
          | (go_at_call 24; (with_reducible refine (BT.out _).mono ?_); rintro e w2 ⟨rfl, rfl⟩))
        have E0 : Hid (DQ w (w1.alloc (.cells #[.bool false, .slice none 0 0, .int .i64 0] 42)) w1.heap.size false none 0 0 0 0) := ⟨Blk.new _ _ _, (qs_zero _).mono2 (by omega) (by omega), D.out.alloc D.out.size _⟩
        have hg1 : Hid (w.heap.size ≤ w1.heap.size) := D.out.size
        obtain ⟨g, hg⟩ : ∃ g, w1.heap.size = g := ⟨_, rfl⟩
        rw [hg] at E0 hg1
        have QV : Hid (∀ (W : World) (x : Int), fi x → Calls Tryd.prog 22 #[.int .u64 x] W (RetSF 2200 1100 W (val x))) := fun W x h => QVal_v x W h
        have QM : Hid (∀ (W : World) (u v : Value) (x y : Int), fi x → fi y → QS 2200 1100 W u (val x) → QS 2200 1100 W v (val y) → Calls Tryd.prog 38 #[u, v] W (RetS 4400 2200 W (S (PD x y).d))) := fun W u v x y h1 h2 h3 h4 => QMul_pd h1 h2 h3 h4
        have QA : Hid (∀ (W : World) (u v : Value) (s s' : Int), QS 4400 2200 W u s → QS 4400 2200 W v s' → (∀ K : Int, K = 2056 → s + s' ≤ sc 1 K ∧ -(sc 1 K) ≤ s + s') → Calls Tryd.prog 36 #[u, v] W (RetSF 4400 2200 W (s + s'))) := fun W u v s s' h1 h2 h3 => QAdd_p rfl h1 h2 (h3 2056 rfl)
        simp only [hg]
        clear h3' hn2 hg
        go_loopw [23, 8] (fun iv sv wr => ∃ (k : Nat) (say s : Int) (bq : Bool) (Aq : Option Addr) (nq cq : Nat) (tq : Int), iv = .int .i64 k ∧ k ≤ n ∧ sv = .int .i64 say ∧ Hid (stt L k say s) ∧ Hid (DQ w wr g bq Aq nq cq tq s)) (fun iv _ _ => n - (intOf iv).toNat)
        case atStart => exact ⟨0, 0, 0, _, _, _, _, _, rfl, by omega, rfl, .inl ⟨rfl, by simp, by simp [ps]⟩, E0.out⟩
        case round =>
          obtain ⟨k, say, s, bq, Aq, nq, cq, tq, rfl, hk, rfl, hst, hE⟩ := hrel
          by_cases hkn : k < n
          · have hN := HN.out
            obtain ⟨ad, c', e', hc', hb', hcell⟩ := (HS.out _ hE.out.b).at_ k (by omega)
            injection e' with e1 e2 e3
            subst e1
            have ux := u64s_at HU.out k
            have kx : F.exq (L.getD k 0) = 2047 ∨ fi (L.getD k 0) := by
              by_cases h : F.exq (L.getD k 0) = 2047
              · exact .inl h
              · exact .inr ⟨ux.1, ux.2, h⟩
            have NA : Hid (∀ W : World, Calls Tryd.prog 42 #[.int .u64 (L.getD k 0)] W fun e w' => e = .returned (.bool (F.cls (L.getD k 0) == 5)) ∧ W = w') := fun W => IsNan_c _ ux.1 ux.2 W
            have IN : Hid (∀ W : World, Calls Tryd.prog 43 #[.int .u64 (L.getD k 0)] W fun e w' => e = .returned (.bool (F.cls (L.getD k 0) == 4)) ∧ W = w') := fun W => IsInf_c _ ux.1 ux.2 W
            rcases kx with hx | hx
            · -- no value
              have S4 := Lib.hid (stt_bad (by omega) hst.out hx)
              have kc : (F.cls (L.getD k 0) == 5) = true ∨ ((F.cls (L.getD k 0) == 5) = false ∧ (F.cls (L.getD k 0) == 4) = true) := by
                by_cases h5 : F.cls (L.getD k 0) = 5
                · left; exact beq_iff_eq.2 h5
                · right
                  by_cases h4 : F.cls (L.getD k 0) = 4
                  · exact ⟨beq_eq_false_iff_ne.2 h5, beq_iff_eq.2 h4⟩
                  · exact absurd hx (cls_fi.1 ⟨h5, h4⟩)
              clear hx e2 e3 hc' hb' ux hN
              generalize L.getD k 0 = xk at *
              rcases kc with h5 | ⟨h5, h4⟩
              · rw [h5] at NA
                clear IN h5
                go_wp2_with (first
                  | (go_at_call 42; (with_reducible refine (NA.out _).mono ?_); rintro e w3 ⟨rfl, rfl⟩))
                go_roundw
                case rel => exact ⟨k + 1, _, _, _, _, _, _, _, by go_num, by omega, rfl, S4.out, hE.out⟩
                case measure => simp [intOf]; omega
              · rw [h5] at NA
                rw [h4] at IN
                clear h5 h4
                go_wp2_with (first
                  | (go_at_call 42; (with_reducible refine (NA.out _).mono ?_); rintro e w3 ⟨rfl, rfl⟩)
                  | (go_at_call 43; (with_reducible refine (IN.out _).mono ?_); rintro e w4 ⟨rfl, rfl⟩))
                go_roundw
                case rel => exact ⟨k + 1, _, _, _, _, _, _, _, by go_num, by omega, rfl, S4.out, hE.out⟩
                case measure => simp [intOf]; omega
            · have fl := fi_flags hx
              rw [fl.1] at NA
              rw [fl.2.1] at IN
              clear fl
              rcases hst.out with ⟨rfl, hst0⟩ | ⟨rfl, hst4⟩
              · clear hst0
                rcases Nat.mod_two_eq_zero_or_one k with hk2 | hk2
                · have S0 := Lib.hid (stt_even (by omega) hst.out hx hk2)
                  have hk3 : (k : Int) % 2 = 0 := by omega
                  clear hx e2 e3 hc' hb' ux hN hk2
                  generalize L.getD k 0 = xk at *
                  go_wp2_with (first
                    | (go_at_call 42; (with_reducible refine (NA.out _).mono ?_); rintro e w3 ⟨rfl, rfl⟩)
                    | (go_at_call 43; (with_reducible refine (IN.out _).mono ?_); rintro e w4 ⟨rfl, rfl⟩))
                  go_roundw
                  case rel => exact ⟨k + 1, _, _, _, _, _, _, _, by go_num, by omega, rfl, S0.out, hE.out⟩
                  case measure => simp [intOf]; omega
                · obtain ⟨j, rfl⟩ : ∃ j, k = j + 1 := ⟨k - 1, by omega⟩
                  obtain ⟨fj, S0⟩ := stt_odd (by omega) hst.out hx (by omega)
                  have hk3 : ((j : Int) + 1) % 2 = 1 := by omega
                  have VL : Hid (∀ K : Int, K = 2056 → s + S (PD (L.getD j 0) (L.getD (j + 1) 0)).d ≤ sc 1 K ∧ -(sc 1 K) ≤ s + S (PD (L.getD j 0) (L.getD (j + 1) 0)).d) := fun K hK => by
                    rcases S0 with ⟨-, h, e⟩ | ⟨h, -⟩
                    · rw [e]
                      exact ps_lim hK (fun z hz => h z (List.mem_of_mem_take (i := 2 * ((j + 1 + 1) / 2)) (by rw [List.take_take]; rw [Nat.min_eq_left (by omega)]; exact hz))) (by rw [List.length_take]; have := H3.out; omega)
                    · cases h
                  have S0 := Lib.hid S0
                  obtain ⟨ad', c'', e'', -, -, hcell'⟩ := (HS.out _ hE.out.b).at_ j (by omega)
                  injection e'' with e1' e2' e3'
                  obtain rfl := Option.some.inj e1'
                  have hcells : Hid (∀ W, Below w.heap.size w W → W.cell? (ad.add (j + 1)) = some (.int .u64 (L.getD (j + 1) 0)) ∧ W.cell? ⟨ad.block, ad.off + (j + 1), none⟩ = some (.int .u64 (L.getD (j + 1) 0)) ∧ W.cell? (ad.add j) = some (.int .u64 (L.getD j 0))) := fun W hW => by
                    obtain ⟨a1, _, f1, -, -, g1⟩ := (HS.out _ hW).at_ (j + 1) (by omega)
                    obtain ⟨a2, _, f2, -, -, g2⟩ := (HS.out _ hW).at_ j (by omega)
                    injection f1 with f1
                    obtain rfl := Option.some.inj f1
                    injection f2 with f2
                    obtain rfl := Option.some.inj f2
                    exact ⟨g1, by have := g1; unfold Addr.add at this; simpa using this, g2⟩
                  obtain ⟨hc1, hc2, hc3⟩ := hcells.out _ hE.out.b
                  have HX := Lib.hid hx
                  have HJ := Lib.hid fj
                  clear hx fj hcell hcell' e2 e3 hc' hb' ux hk2 e1' e2' e3'
                  obtain ⟨xk, hxk⟩ : ∃ xk, L.getD (j + 1) 0 = xk := ⟨_, rfl⟩
                  obtain ⟨xj, hxj⟩ : ∃ xj, L.getD j 0 = xj := ⟨_, rfl⟩
                  rw [hxk] at NA IN S0 VL hcells hc1 hc2 HX
                  rw [hxj] at S0 VL hcells hc3 HJ
                  have hkk : (((j + 1 : Nat)) : Int) = (j : Int) + 1 := by omega
                  have hq2 : 0 ≤ (j : Int) + 1 := by omega
                  have hq1 : (j : Int) + 1 < n := by omega
                  have hq0 : (j : Int) < n := by omega
                  have hqw : IntKind.i64.wrap (j : Int) = (j : Int) := IntWalk.i64_in _ (by omega)
                  clear hxk hxj hkn hk hN
                  simp only [hkk]
                  clear hkk
                  go_wp2_with (first
                    | (go_at_call 42; (with_reducible refine (NA.out _).mono ?_); rintro e w3 ⟨rfl, rfl⟩)
                    | (go_at_call 43; (with_reducible refine (IN.out _).mono ?_); rintro e w4 ⟨rfl, rfl⟩))
                  have E1 := hE.out.drew
                  (refine wp_region_L (S := fun w' => w'.cell? ⟨g, 0, none⟩ = some (.bool bq) ∧ w'.cell? ⟨g, 1, none⟩ = some (.slice Aq nq cq) ∧ w'.cell? ⟨g, 2, none⟩ = some (.int .i64 tq) ∧ w'.cell? (ad.add (j + 1)) = some (.int .u64 xk) ∧ w'.cell? ⟨ad.block, ad.off + (j + 1), none⟩ = some (.int .u64 xk) ∧ w'.cell? (ad.add j) = some (.int .u64 xj)) (nl := 14) (by kernel_rfl) ?_ (fun hHeld => ?_); focus (exact ⟨E1.k.at_ 0 rfl, E1.k.at_ 1 rfl, E1.k.at_ 2 rfl, hcells.out _ E1.b⟩))
                  (refine wpAnyL_take (i := 0) (oi := _) (v := ?_) rfl (by kernel_rfl) (by kernel_rfl) (by kernel_rfl) (fun _ _ _ h => h) (Or.inl ⟨by first | rfl | kernel_rfl, ?hy1⟩) (by assumption) ?rs1; (case hy1 => (intro w hSw; (try dsimp only at hSw); go_simp; first | done | with_reducible rfl)); case' rs1 => (simp only [List.getElem_toArray, List.getElem_cons_zero, List.getElem_cons_succ, Act.put, List.setIfInBounds_toArray, List.set_cons_zero, List.set_cons_succ])); (refine wpAnyL_take (i := 1) (oi := _) (v := ?_) rfl (by kernel_rfl) (by kernel_rfl) (by kernel_rfl) (fun _ _ _ h => h) (Or.inl ⟨by first | rfl | kernel_rfl, ?hy2⟩) (by assumption) ?rs2; (case hy2 => (intro w hSw; (try dsimp only at hSw); go_simp; first | done | with_reducible rfl)); case' rs2 => (simp only [List.getElem_toArray, List.getElem_cons_zero, List.getElem_cons_succ, Act.put, List.setIfInBounds_toArray, List.set_cons_zero, List.set_cons_succ])); (refine wpAnyL_take (i := 2) (oi := _) (v := ?_) rfl (by kernel_rfl) (by kernel_rfl) (by kernel_rfl) (fun _ _ _ h => h) (Or.inl ⟨by first | rfl | kernel_rfl, ?hy3⟩) (by assumption) ?rs3; (case hy3 => (intro w hSw; (try dsimp only at hSw); go_simp; first | done | with_reducible rfl)); case' rs3 => (simp only [List.getElem_toArray, List.getElem_cons_zero, List.getElem_cons_succ, Act.put, List.setIfInBounds_toArray, List.set_cons_zero, List.set_cons_succ])); (refine wpAnyL_take (i := 3) (oi := _) (v := ?_) rfl (by kernel_rfl) (by kernel_rfl) (by kernel_rfl) (fun _ _ _ h => h) (Or.inl ⟨by first | rfl | kernel_rfl, ?hy4⟩) (by assumption) ?rs4; (case hy4 => (intro w hSw; (try dsimp only at hSw); go_simp; first | done | with_reducible rfl)); case' rs4 => (simp only [List.getElem_toArray, List.getElem_cons_zero, List.getElem_cons_succ, Act.put, List.setIfInBounds_toArray, List.set_cons_zero, List.set_cons_succ])); (refine wpAnyL_take (i := 4) (oi := _) (v := ?_) rfl (by kernel_rfl) (by kernel_rfl) (by kernel_rfl) (fun _ _ _ h => h) (Or.inl ⟨by first | rfl | kernel_rfl, ?hy5⟩) (by assumption) ?rs5; (case hy5 => (intro w hSw; (try dsimp only at hSw); go_simp; first | done | with_reducible rfl)); case' rs5 => (simp only [List.getElem_toArray, List.getElem_cons_zero, List.getElem_cons_succ, Act.put, List.setIfInBounds_toArray, List.set_cons_zero, List.set_cons_succ])); (refine wpAnyL_take (i := 5) (oi := _) (v := ?_) rfl (by kernel_rfl) (by kernel_rfl) (by kernel_rfl) (fun _ _ _ h => h) (Or.inl ⟨by first | rfl | kernel_rfl, ?hy6⟩) (by assumption) ?rs6; (case hy6 => (intro w hSw; (try dsimp only at hSw); go_simp; first | done | with_reducible rfl)); case' rs6 => (simp only [List.getElem_toArray, List.getElem_cons_zero, List.getElem_cons_succ, Act.put, List.setIfInBounds_toArray, List.set_cons_zero, List.set_cons_succ])); (refine wpAnyL_take (i := 7) (oi := _) (v := ?_) rfl (by kernel_rfl) (by kernel_rfl) (by kernel_rfl) (fun _ _ _ h => h) (Or.inl ⟨by first | rfl | kernel_rfl, ?hy7⟩) (by assumption) ?rs7; (case hy7 => (intro w hSw; (try dsimp only at hSw); go_simp; first | done | with_reducible rfl)); case' rs7 => (simp only [List.getElem_toArray, List.getElem_cons_zero, List.getElem_cons_succ, Act.put, List.setIfInBounds_toArray, List.set_cons_zero, List.set_cons_succ])); (refine wpAnyL_take (i := 8) (oi := _) (v := ?_) rfl (by kernel_rfl) (by kernel_rfl) (by kernel_rfl) (fun _ _ _ h => h) (Or.inl ⟨by first | rfl | kernel_rfl, ?hy8⟩) (by assumption) ?rs8; (case hy8 => (intro w hSw; (try dsimp only at hSw); go_simp; first | done | with_reducible rfl)); case' rs8 => (simp only [List.getElem_toArray, List.getElem_cons_zero, List.getElem_cons_succ, Act.put, List.setIfInBounds_toArray, List.set_cons_zero, List.set_cons_succ])); (refine wpAnyL_take (i := 9) (oi := _) (v := ?_) rfl (by kernel_rfl) (by kernel_rfl) (by kernel_rfl) (fun _ _ _ h => h) (Or.inl ⟨by first | rfl | kernel_rfl, ?hy9⟩) (by assumption) ?rs9; (case hy9 => (intro w hSw; (try dsimp only at hSw); go_simp; first | done | with_reducible rfl)); case' rs9 => (simp only [List.getElem_toArray, List.getElem_cons_zero, List.getElem_cons_succ, Act.put, List.setIfInBounds_toArray, List.set_cons_zero, List.set_cons_succ])); (refine wpAnyL_take (i := 10) (oi := _) (v := ?_) rfl (by kernel_rfl) (by kernel_rfl) (by kernel_rfl) (fun _ _ _ h => h) (Or.inl ⟨by first | rfl | kernel_rfl, ?hy10⟩) (by assumption) ?rs10; (case hy10 => (intro w hSw; (try dsimp only at hSw); go_simp; first | done | with_reducible rfl)); case' rs10 => (simp only [List.getElem_toArray, List.getElem_cons_zero, List.getElem_cons_succ, Act.put, List.setIfInBounds_toArray, List.set_cons_zero, List.set_cons_succ])); skip
                  (refine wpAnyL_one (i := 6) (o := _) (by kernel_rfl) rfl (fun K hK => ?_); clear hHeld; simp only [List.getElem_toArray, List.getElem_cons_zero, List.getElem_cons_succ]; go_simp; (go_at_call 22; (with_reducible refine (QV.out _ _ HJ.out).mono ?_); rintro e w5 ⟨b5, A5, n5, c5, t5, z5, rfl, r1, r2, r3, r4, r5, r6, hb⟩; have E2 := Lib.hid (E1.below hb); have Q5 := Lib.hid (RetS.qs r1 r2 r3 r4 r5); clear r1 r2 r3 r4 r5 r6 hb); refine hK.out _ _ ?_ (fun hHeld => ?_); focus (intro _; exact ⟨E2.out.k.at_ 0 rfl, E2.out.k.at_ 1 rfl, E2.out.k.at_ 2 rfl, hcells.out _ E2.out.b⟩)); have hHeld := hHeld (by decide); clear hK K; (try simp only [Act.put, List.setIfInBounds_toArray, List.set_cons_zero, List.set_cons_succ])
                  (refine wpAnyL_one (i := 11) (o := _) (by kernel_rfl) rfl (fun K hK => ?_); clear hHeld; simp only [List.getElem_toArray, List.getElem_cons_zero, List.getElem_cons_succ]; go_simp; (go_at_call 22; (with_reducible refine (QV.out _ _ HX.out).mono ?_); rintro e w6 ⟨b6, A6, n6, c6, t6, z6, rfl, r1, r2, r3, r4, r5, r6, hb⟩; have E3 := Lib.hid (E2.out.below hb); have Q5 := Lib.hid (Q5.out.below hb); have Q6 := Lib.hid (RetS.qs r1 r2 r3 r4 r5); clear r1 r2 r3 r4 r5 r6 hb); refine hK.out _ _ ?_ (fun hHeld => ?_); focus (intro _; exact ⟨E3.out.k.at_ 0 rfl, E3.out.k.at_ 1 rfl, E3.out.k.at_ 2 rfl, hcells.out _ E3.out.b⟩)); have hHeld := hHeld (by decide); clear hK K; (try simp only [Act.put, List.setIfInBounds_toArray, List.set_cons_zero, List.set_cons_succ])
                  (refine wpAnyL_one (i := 12) (o := _) (by kernel_rfl) rfl (fun K hK => ?_); clear hHeld; simp only [List.getElem_toArray, List.getElem_cons_zero, List.getElem_cons_succ]; go_simp; (go_at_call 38; (with_reducible refine (QM.out _ _ _ _ _ HJ.out HX.out Q5.out Q6.out).mono ?_); rintro e w7 ⟨b7, A7, n7, c7, t7, z7, rfl, r1, r2, r3, r4, r5, hb⟩; have E4 := Lib.hid (E3.out.below hb); have Q7 := Lib.hid (RetS.qs r1 r2 r3 r4 r5); clear r1 r2 r3 r4 r5 hb); refine hK.out _ _ ?_ (fun hHeld => ?_); focus (intro _; exact ⟨E4.out.k.at_ 0 rfl, E4.out.k.at_ 1 rfl, E4.out.k.at_ 2 rfl, hcells.out _ E4.out.b⟩)); have hHeld := hHeld (by decide); clear hK K; (try simp only [Act.put, List.setIfInBounds_toArray, List.set_cons_zero, List.set_cons_succ])
                  (refine wpAnyL_one (i := 13) (o := _) (by kernel_rfl) rfl (fun K hK => ?_); clear hHeld; simp only [List.getElem_toArray, List.getElem_cons_zero, List.getElem_cons_succ]; go_simp; (go_at_call 36; (with_reducible refine (QA.out _ _ _ _ _ E4.out.q Q7.out VL.out).mono ?_); rintro e w8 ⟨b8, A8, n8, c8, t8, z8, rfl, r1, r2, r3, r4, r5, r6, hb⟩; have E5 := Lib.hid (E4.out.below hb); have E6 := Lib.hid (DQ.set E5.out hg1.out E4.out.k.lt r1 r2 r3 r4 r5 r6); clear r1 r2 r3 r4 r5 r6 hb); refine hK.out _ _ ?_ (fun hHeld => ?_); focus (intro _; exact ⟨E5.out.k.at_ 0 rfl, E5.out.k.at_ 1 rfl, E5.out.k.at_ 2 rfl, hcells.out _ E5.out.b⟩)); have hHeld := hHeld (by decide); clear hK K; (try simp only [Act.put, List.setIfInBounds_toArray, List.set_cons_zero, List.set_cons_succ])
                  have p0 := E5.out.k.at_ 0 rfl
                  have p1 := E5.out.k.at_ 1 rfl
                  have p2 := E5.out.k.at_ 2 rfl
                  have f0 := E5.out.k.frozen 0
                  have f1 := E5.out.k.frozen 1
                  have f2 := E5.out.k.frozen 2
                  clear E1
                  (refine wpAnyL_one (i := 14) (o := _) (by kernel_rfl) rfl (fun K hK => ?_); clear hHeld; simp only [List.getElem_toArray, List.getElem_cons_zero, List.getElem_cons_succ]; go_simp; refine hK.out _ _ ?_ (fun hHeld => ?_); focus (intro h; exact absurd h (by decide))); clear hK K; (try simp only [Act.put, List.setIfInBounds_toArray, List.set_cons_zero, List.set_cons_succ])
                  refine wpAnyL_done (by kernel_rfl) ?_ _
                  go_wp2
                  go_roundw
                  case rel => exact ⟨j + 1 + 1, _, _, _, _, _, _, _, by go_num, by omega, rfl, S0.out, E6.out⟩
                  case measure => simp [intOf]; omega
              · clear hst4
                have S4 : Hid (stt L (k + 1) 4 s) := stt_four (by omega) hst.out
                clear hx e2 e3 hc' hb' ux hN
                generalize L.getD k 0 = xk at *
                have k3 : (k : Int) % 2 = 0 ∨ (k : Int) % 2 = 1 := by omega
                rcases k3 with k3 | k3
                all_goals (
                  go_wp2_with (first
                    | (go_at_call 42; (with_reducible refine (NA.out _).mono ?_); rintro e w3 ⟨rfl, rfl⟩)
                    | (go_at_call 43; (with_reducible refine (IN.out _).mono ?_); rintro e w4 ⟨rfl, rfl⟩))
                  go_roundw
                  case rel => exact ⟨k + 1, _, _, _, _, _, _, _, by go_num, by omega, rfl, S4.out, hE.out⟩
                  case measure => simp [intOf]; omega)
          · have hkn2 : k = n := by omega
            subst hkn2
            have hL : L.take k = L := by rw [HN.out, List.take_length]
            rcases hst.out with ⟨rfl, hf, hv⟩ | ⟨rfl, hf⟩
            · rw [hL] at hf
              have hnf : nf L = false := (nf_fi HU.out).2 hf
              have hv2 : s = ps L := by rw [hv, show 2 * (k / 2) = k by have := HN.out; have := H2.out; omega, hL]
              have n3 : ¬ 200 < L.length := by have := H3.out; omega
              have pk := pt_ok hf n3
              have e := HDT.out
              rw [DT_fi HM.out H2.out n3 hnf] at e
              obtain ⟨q1, q2⟩ := Prod.mk.inj e
              obtain ⟨q2, q3⟩ := Prod.mk.inj q2
              have RO : Hid (∀ (W : World) (u : Value), QS 4400 2200 W u s → Calls Tryd.prog 44 #[u, .int .i64 0, .int .i64 mode] W fun e w' => e = .returned (.tuple #[.int .u64 x, .bool lo]) ∧ Below W.heap.size W w') := fun W u h => by
                rw [hv2, ← pk.2] at h
                rw [← q1, ← q2]
                exact Rounded_t h (by omega) (by omega) pk.1 HM.out
              subst q3
              have tx : (x == x) = true := by simp
              have tl : (lo == lo) = true := by simp
              obtain ⟨p0, p1, p2⟩ := And.intro (hE.out.k.at_ 0 rfl) (And.intro (hE.out.k.at_ 1 rfl) (hE.out.k.at_ 2 rfl))
              clear hL hf hnf hv hv2 n3 pk e q1 q2
              go_wp2_with (first
                | (go_at_call 44; (with_reducible refine (RO.out _ _ hE.out.q).mono ?_); rintro e w9 ⟨rfl, hb⟩; have D9 := Lib.hid (hE.out.b.trans (hb.mono hE.out.b.size)); clear hb))
              go_ret
              exact ⟨rfl, D9.out⟩
            · rw [hL] at hf
              have n3 : ¬ 200 < L.length := by have := H3.out; omega
              have e := HDT.out
              rw [DT_nf HM.out H2.out n3 hf] at e
              obtain ⟨q1, q2⟩ := Prod.mk.inj e
              obtain ⟨q2, q3⟩ := Prod.mk.inj q2
              subst q1
              subst q2
              subst q3
              clear hL hf n3 e
              go_wp2
              go_ret
              exact ⟨rfl, hE.out.b⟩
    · rw [DT_odd hm h2] at A1
      have hn2 : (n : Int) % 2 = 1 := by omega
      clear hm h2 hs hu hl hn hT
      go_enter Tryd.func6, Tryd.ntmps6
      go_wp2_with (first
        | (go_at_call 41; (with_reducible refine (A1.out).mono ?_); rintro e w1 ⟨rfl, hb⟩; have D := Lib.hid hb; clear hb)
        | (go_at_call 24; (with_reducible refine (BT.out _).mono ?_); rintro e w2 ⟨rfl, rfl⟩))
      go_ret
      exact ⟨rfl, D.out.alloc D.out.size _⟩
  · rw [decide_eq_false hm] at BT
    rw [DT_no hm] at A1
    clear hm hs hu hl hn hT
    go_enter Tryd.func6, Tryd.ntmps6
    go_wp2_with (first
      | (go_at_call 41; (with_reducible refine (A1.out).mono ?_); rintro e w1 ⟨rfl, hb⟩; have D := Lib.hid hb; clear hb)
      | (go_at_call 24; (with_reducible refine (BT.out _).mono ?_); rintro e w2 ⟨rfl, rfl⟩))
    go_ret
    exact ⟨rfl, D.out.alloc D.out.size _⟩
end PC
end Go.Proofs.YtjplemfdhhkbaaaDoor
