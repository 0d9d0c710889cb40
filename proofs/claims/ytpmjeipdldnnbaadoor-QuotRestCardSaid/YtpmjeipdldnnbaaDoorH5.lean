/-
  Texts glued together for a claim: R4 R5 R6 U1 U2 U3 P1 P2 P3 R7.
-/
import Derived.Test.YtpmjeipdldnnbaaDoorH4
/-
  Package round: toward0.
-/
namespace Go.Proofs.YtpmjeipdldnnbaaDoor
set_option linter.unusedVariables false
set_option linter.unusedSimpArgs false
open Go.RowKit
set_option linter.unusedVariables false
namespace RC
open L NC NK DC
open Z (Nz Tz cmpv)
theorem bits_ex : ∀ (f : Nat) (z : Int), 0 < z → z < 2 ^ f → ∃ k : Nat, k ≤ f ∧ 0 < k ∧ z < 2 ^ k ∧ 2 ^ (k - 1) ≤ z := by
  intro f
  induction f with
  | zero => intro z h0 h1; simp at h1; omega
  | succ f ih =>
    intro z h0 h1
    by_cases h : z < 2 ^ f
    · obtain ⟨k, a, b⟩ := ih z h0 h
      exact ⟨k, by omega, b⟩
    · exact ⟨f + 1, by omega, by omega, h1, by simp; omega⟩
theorem Bits_k {u : Value} {z : Int} {w : World} {k : Nat} (h : PV w u 0 z) (h1 : z < 2 ^ k) (h2 : 2 ^ (k - 1) ≤ z) (h0 : 0 < k) : Calls Tryd.prog 107 #[u] w (fun e w' => e = .returned (.tuple #[.int .i64 k, .int .i64 0]) ∧ w = w') := by
  refine (bits_p h).mono ?_
  rintro e w' ⟨n, rfl, h3, h4, -, rfl⟩
  obtain ⟨h5, h6⟩ := h4.out rfl
  have hz : 0 < z := by have := two_pos' (k - 1); omega
  have e : n = k := by
    rcases h6 with rfl | h6
    · simp at h5; omega
    · have a1 := two_lt (Int.lt_of_le_of_lt h6 h1)
      have a2 := two_lt (Int.lt_of_le_of_lt h2 h5)
      have n0 : n ≠ 0 := by rintro rfl; simp at h5; omega
      omega
  rw [e]
  exact ⟨rfl, rfl⟩
/-- behind the box of a Dyad and a rest's cell -/
theorem tbox (w : World) (b1 : Bool) (A1 : Option Addr) (n1 c1 : Nat) (x1 : Int) :
    ∃ W0, (w.alloc (.cells #[.bool b1, .slice A1 n1 c1, .int .i64 x1] 35)).alloc (.cells #[.bool false, .bool false] 130) = W0 ∧ Below w.heap.size w W0 ∧
    (∀ W, Below W0.heap.size W0 W → BX W w.heap.size b1 A1 n1 c1 x1 ∧ Blk W (w.heap.size + 1) 130 #[.bool false, .bool false]) := by
  obtain ⟨N1, N2, NS, NB⟩ := new2 w 35 130 #[.bool b1, .slice A1 n1 c1, .int .i64 x1] #[.bool false, .bool false] 0
  rw [World.drewN_zero] at N1 N2 NS NB
  exact ⟨_, rfl, NB, fun W h => ⟨BX.of (N1.below h N1.lt), N2.below h N2.lt⟩⟩
set_option maxRecDepth 100000 in
theorem toward0_z (b : Bool) (A : Option Addr) (c : Nat) (x : Int) (w : World) :
    Calls Tryd.prog 114 #[.agg #[.bool b, .slice A 0 c, .int .i64 x]] w (DC.RetB w (.tuple #[.int .u64 0, .agg #[.bool false, .bool false]])) := by
  obtain ⟨W0, hW0, D0, KB⟩ := tbox w b A 0 c x
  have IZ : Hid (∀ W, Calls Tryd.prog 134 #[.agg #[.bool b, .slice A 0 c, .int .i64 x]] W (DC.RetB W (.bool true))) := fun W => by
    have := isZero_c b A 0 c x W
    rwa [show decide (0 = 0) = true from rfl] at this
  have KB := Lib.hid KB
  have D0 := Lib.hid D0
  have HW0 := Lib.hid hW0
  clear hW0
  go_enter Tryd.func114, Tryd.ntmps114
  go_wp2_with (first
    | (go_at_call 134; rw [HW0.out]; (with_reducible refine (IZ.out _).mono ?_); rintro e w2 ⟨rfl, hb0⟩; have D := Lib.hid hb0; obtain ⟨⟨p0, p1, p2⟩, R2⟩ := KB.out _ D.out; have t0 := R2.at_ 0 rfl; have t1 := R2.at_ 1 rfl; have f0 := R2.frozen 0; have f1 := R2.frozen 1; have R2 := Lib.hid R2))
  exact bodyPost_ret (v := .tuple #[.int .u64 0, .agg #[.bool false, .bool false]]) (by simp [results, Tryd.results114, go_sem, t0, t1]) rfl
    ⟨rfl, below2 (D0.out.trans (D.out.mono D0.out.size)) (by omega) _ _⟩
set_option maxRecDepth 100000 in
theorem toward0_far (b : Bool) (A : Option Addr) (n c : Nat) (x z : Int) (k : Nat) (w : World) (h : PV w (.slice A n c) 0 z) (hn : n ≠ 0) (h1 : z < 2 ^ k) (h2 : 2 ^ (k - 1) ≤ z) (h0 : 0 < k) (hk : k ≤ 12800) (hx : -20000 ≤ x ∧ x ≤ 20000) (ht : 1024 < k + x) :
    Calls Tryd.prog 114 #[.agg #[.bool b, .slice A n c, .int .i64 x]] w (DC.RetB w (.tuple #[.int .u64 9218868437227405311, .agg #[.bool true, .bool true]])) := by
  obtain ⟨W0, hW0, D0, KB⟩ := tbox w b A n c x
  have IZ : Hid (∀ W, Calls Tryd.prog 134 #[.agg #[.bool b, .slice A n c, .int .i64 x]] W (DC.RetB W (.bool false))) := fun W => by
    have := isZero_c b A n c x W
    rwa [show decide (n = 0) = false by simp [hn]] at this
  have BT : Hid (∀ W, Below W0.heap.size W0 W → Calls Tryd.prog 107 #[.slice A n c] W (fun e w' => e = .returned (.tuple #[.int .i64 k, .int .i64 0]) ∧ W = w')) := fun W hW => Bits_k ((h.below D0).below hW) h1 h2 h0
  have i1 : IntKind.i64.wrap ((k : Int) + x) = k + x := IntWalk.i64_in _ (by omega)
  obtain ⟨T, hT⟩ : ∃ T, (k : Int) + x = T := ⟨_, rfl⟩
  rw [hT] at i1 ht
  rw [← hT] at i1
  have HT := Lib.hid hT
  have KB := Lib.hid KB
  have D0 := Lib.hid D0
  have HW0 := Lib.hid hW0
  have ht' : (k : Int) + x > 1024 := by omega
  clear hW0 h hn h1 h2 h0 hk hx hT ht
  go_enter Tryd.func114, Tryd.ntmps114
  go_wp2_with (first
    | (go_at_call 134; rw [HW0.out]; (with_reducible refine (IZ.out _).mono ?_); rintro e w2 ⟨rfl, hb0⟩; have D := Lib.hid hb0; obtain ⟨⟨p0, p1, p2⟩, R2⟩ := KB.out _ D.out; have t0 := R2.at_ 0 rfl; have t1 := R2.at_ 1 rfl; have f0 := R2.frozen 0; have f1 := R2.frozen 1; have R2 := Lib.hid R2)
    | (go_at_call 107; (with_reducible refine (BT.out _ D.out).mono ?_); rintro e w3 ⟨rfl, rfl⟩))
  exact bodyPost_ret (v := .tuple #[.int .u64 9218868437227405311, .agg #[.bool true, .bool true]]) (by simp [results, Tryd.results114, go_sem, t0, t1]) rfl
    ⟨rfl, below2 (D0.out.trans (D.out.mono D0.out.size)) (by omega) _ _⟩
set_option maxRecDepth 100000 in
theorem toward0_near (b : Bool) (A : Option Addr) (n c : Nat) (x z u : Int) (k : Nat) (w : World) (h : PV w (.slice A n c) 0 z) (hn : n ≠ 0) (h1 : z < 2 ^ k) (h2 : 2 ^ (k - 1) ≤ z) (h0 : 0 < k) (hk : k ≤ 12800) (hx : -20000 ≤ x ∧ x ≤ 20000) (ht : k + x ≤ 1024) (hu : u = max (k + x - 53) (-1074))
    (q : Int) (hf m : Bool) (hq : 0 ≤ q ∧ q < 9007199254740992) (hT : TabD w)
    (SP : ∀ W, Below w.heap.size w W → Calls Tryd.prog 135 #[.slice A n c, .int .i64 (x - u)] W (RetSp W q hf m)) :
    Calls Tryd.prog 114 #[.agg #[.bool b, .slice A n c, .int .i64 x]] w (DC.RetB w (.tuple #[.int .u64 ((u + 1074) * 4503599627370496 + q), .agg #[.bool hf, .bool m]])) := by
  obtain ⟨W0, hW0, D0, KB⟩ := tbox w b A n c x
  have IZ : Hid (∀ W, Calls Tryd.prog 134 #[.agg #[.bool b, .slice A n c, .int .i64 x]] W (DC.RetB W (.bool false))) := fun W => by
    have := isZero_c b A n c x W
    rwa [show decide (n = 0) = false by simp [hn]] at this
  have BT : Hid (∀ W, Below W0.heap.size W0 W → Calls Tryd.prog 107 #[.slice A n c] W (fun e w' => e = .returned (.tuple #[.int .i64 k, .int .i64 0]) ∧ W = w')) := fun W hW => Bits_k ((h.below D0).below hW) h1 h2 h0
  have SP : Hid (∀ W, Below W0.heap.size W0 W → Calls Tryd.prog 135 #[.slice A n c, .int .i64 (x - u)] W (RetSp W q hf m)) := fun W hW => SP W (D0.trans (hW.mono D0.size))
  have WD : Hid (∀ (W : World) A n c, NV W (.slice A n c) q → Calls Tryd.prog 136 #[.slice A n c] W (fun e w' => e = .returned (.int .u64 q) ∧ W = w')) := fun W A n c hv => word_c A n c q W hv (by omega)
  have i1 : IntKind.i64.wrap ((k : Int) + x) = k + x := IntWalk.i64_in _ (by omega)
  have i2 : IntKind.i64.wrap ((k : Int) + x - 52) = k + x - 52 := IntWalk.i64_in _ (by omega)
  have i3 : IntKind.i64.wrap ((k : Int) + x - 52 - 1) = k + x - 52 - 1 := IntWalk.i64_in _ (by omega)
  have i4 : IntKind.i64.wrap (x - u) = x - u := IntWalk.i64_in _ (by omega)
  have hu2 : max ((k : Int) + x - 52 - 1) (-1074) = u := by omega
  have ub : -1074 ≤ u ∧ u ≤ 971 := by omega
  have ht' : ¬ (k : Int) + x > 1024 := by omega
  have KB := Lib.hid KB
  have D0 := Lib.hid D0
  have HW0 := Lib.hid hW0
  obtain ⟨T, hT⟩ : ∃ T, (k : Int) + x = T := ⟨_, rfl⟩
  clear hW0 h hn h1 h2 h0 hk hx hT ht hu
  go_enter Tryd.func114, Tryd.ntmps114
  go_upto_region 9 with (first
    | (go_at_call 134; rw [HW0.out]; (with_reducible refine (IZ.out _).mono ?_); rintro e w2 ⟨rfl, hb0⟩; have D := Lib.hid hb0; obtain ⟨⟨p0, p1, p2⟩, R2⟩ := KB.out _ D.out; have t0 := R2.at_ 0 rfl; have t1 := R2.at_ 1 rfl; have f0 := R2.frozen 0; have f1 := R2.frozen 1; have R2 := Lib.hid R2)
    | (go_at_call 107; (with_reducible refine (BT.out _ D.out).mono ?_); rintro e w3 ⟨rfl, rfl⟩)
    | (go_at_call 135; (with_reducible refine (SP.out _ D.out).mono ?_); rintro e w5 ⟨A5, n5, c5, rfl, hv5, hb5⟩; have D := Lib.hid (D.out.trans (hb5.mono D.out.size))))
  have N8 := Blk.new w5 130 #[.bool hf, .bool m]
  have D6 := D.out.alloc D.out.size (.cells #[.bool hf, .bool m] 130)
  have V6 := hv5.below (al1 w5 (.cells #[.bool hf, .bool m] 130))
  have hne : w5.heap.size ≠ w.heap.size + 1 := by
    obtain ⟨-, R⟩ := KB.out _ D.out
    have := R.lt
    omega
  obtain ⟨w6, hw6⟩ : ∃ w6, w5.alloc (.cells #[.bool hf, .bool m] 130) = w6 := ⟨_, rfl⟩
  obtain ⟨g8, hg8⟩ : ∃ g8, w5.heap.size = g8 := ⟨_, rfl⟩
  rw [hw6] at N8 D6 V6 ⊢
  rw [hg8] at N8 hne ⊢
  have c1 : IntKind.i64.wrap (u + 1074) = u + 1074 := IntWalk.i64_in _ (by omega)
  have c2 : IntKind.u64.wrap (u + 1074) = u + 1074 := IntWalk.u64_in _ (by omega)
  have c3 : IntKind.u64.wrap ((u + 1074) * 4503599627370496) = (u + 1074) * 4503599627370496 := IntWalk.u64_in _ (by omega)
  have c4 : IntKind.u64.wrap ((u + 1074) * 4503599627370496 + q) = (u + 1074) * 4503599627370496 + q := IntWalk.u64_in _ (by omega)
  have D := Lib.hid D6
  clear hw6 hg8 D6 hv5 hb5 t0 t1 f0 f1 R2 p0 p1 p2 hb0
  have N9 := N8
  have V9 : NV w6.drew (.slice A5 n5 c5) q := V6
  obtain ⟨-, R2⟩ := KB.out _ D.out
  have n0 := N9.at_ 0 rfl; have n1 := N9.at_ 1 rfl
  (refine wp_region_L (S := fun w' => w'.cell? ⟨g8, 0, none⟩ = some (.bool hf) ∧ w'.cell? ⟨g8, 1, none⟩ = some (.bool m)) (nl := 1000000) (by kernel_rfl) ?_ (fun hHeld => ?_); focus (exact ⟨n0, n1⟩))
  (refine wpAnyL_take (i := 0) (oi := _) (v := ?_) rfl (by kernel_rfl) (by kernel_rfl) (by kernel_rfl) (fun _ _ _ h => h) (Or.inl ⟨by first | rfl | kernel_rfl, ?hy1⟩) (by assumption) ?rs1; (case hy1 => (intro w hSw; (try dsimp only at hSw); go_simp; first | done | with_reducible rfl)); case' rs1 => (simp only [List.getElem_toArray, List.getElem_cons_zero, List.getElem_cons_succ, Act.put, List.setIfInBounds_toArray, List.set_cons_zero, List.set_cons_succ])); (refine wpAnyL_take (i := 1) (oi := _) (v := ?_) rfl (by kernel_rfl) (by kernel_rfl) (by kernel_rfl) (fun _ _ _ h => h) (Or.inl ⟨by first | rfl | kernel_rfl, ?hy2⟩) (by assumption) ?rs2; (case hy2 => (intro w hSw; (try dsimp only at hSw); go_simp; first | done | with_reducible rfl)); case' rs2 => (simp only [List.getElem_toArray, List.getElem_cons_zero, List.getElem_cons_succ, Act.put, List.setIfInBounds_toArray, List.set_cons_zero, List.set_cons_succ])); (refine wpAnyL_take (i := 2) (oi := _) (v := ?_) rfl (by kernel_rfl) (by kernel_rfl) (by kernel_rfl) (fun _ _ _ h => h) (Or.inl ⟨by first | rfl | kernel_rfl, ?hy3⟩) (by assumption) ?rs3; (case hy3 => (intro w hSw; (try dsimp only at hSw); go_simp; first | done | with_reducible rfl)); case' rs3 => (simp only [List.getElem_toArray, List.getElem_cons_zero, List.getElem_cons_succ, Act.put, List.setIfInBounds_toArray, List.set_cons_zero, List.set_cons_succ])); (refine wpAnyL_take (i := 3) (oi := _) (v := ?_) rfl (by kernel_rfl) (by kernel_rfl) (by kernel_rfl) (fun _ _ _ h => h) (Or.inl ⟨by first | rfl | kernel_rfl, ?hy4⟩) (by assumption) ?rs4; (case hy4 => (intro w hSw; (try dsimp only at hSw); go_simp; first | done | with_reducible rfl)); case' rs4 => (simp only [List.getElem_toArray, List.getElem_cons_zero, List.getElem_cons_succ, Act.put, List.setIfInBounds_toArray, List.set_cons_zero, List.set_cons_succ])); (refine wpAnyL_take (i := 4) (oi := _) (v := ?_) rfl (by kernel_rfl) (by kernel_rfl) (by kernel_rfl) (fun _ _ _ h => h) (Or.inl ⟨by first | rfl | kernel_rfl, ?hy5⟩) (by assumption) ?rs5; (case hy5 => (intro w hSw; (try dsimp only at hSw); go_simp; first | done | with_reducible rfl)); case' rs5 => (simp only [List.getElem_toArray, List.getElem_cons_zero, List.getElem_cons_succ, Act.put, List.setIfInBounds_toArray, List.set_cons_zero, List.set_cons_succ])); (refine wpAnyL_take (i := 7) (oi := _) (v := ?_) rfl (by kernel_rfl) (by kernel_rfl) (by kernel_rfl) (fun _ _ _ h => h) (Or.inl ⟨by first | rfl | kernel_rfl, ?hy6⟩) (by assumption) ?rs6; (case hy6 => (intro w hSw; (try dsimp only at hSw); go_simp; first | done | with_reducible rfl)); case' rs6 => (simp only [List.getElem_toArray, List.getElem_cons_zero, List.getElem_cons_succ, Act.put, List.setIfInBounds_toArray, List.set_cons_zero, List.set_cons_succ])); skip
  (refine wpAnyL_one (i := 5) (o := _) (by kernel_rfl) rfl (fun K hK => ?_); clear hHeld; simp only [List.getElem_toArray, List.getElem_cons_zero, List.getElem_cons_succ]; go_simp; (go_at_call 136; (with_reducible refine (WD.out _ _ _ _ V9).mono ?_); rintro e w7 ⟨rfl, rfl⟩); refine hK.out _ _ ?_ (fun hHeld => ?_); focus (intro _; exact ⟨n0, n1⟩)); have hHeld := hHeld (by decide); clear hK K; (try simp only [Act.put, List.setIfInBounds_toArray, List.set_cons_zero, List.set_cons_succ])
  (refine wpAnyL_take (i := 6) (oi := _) (v := ?_) rfl (by kernel_rfl) (by kernel_rfl) (by kernel_rfl) (fun _ _ _ h => h) (Or.inl ⟨by first | rfl | kernel_rfl, ?hy7⟩) (by assumption) ?rs7; (case hy7 => (intro w hSw; (try dsimp only at hSw); go_simp; first | done | with_reducible rfl)); case' rs7 => (simp only [List.getElem_toArray, List.getElem_cons_zero, List.getElem_cons_succ, Act.put, List.setIfInBounds_toArray, List.set_cons_zero, List.set_cons_succ])); (refine wpAnyL_take (i := 8) (oi := _) (v := ?_) rfl (by kernel_rfl) (by kernel_rfl) (by kernel_rfl) (fun _ _ _ h => h) (Or.inl ⟨by first | rfl | kernel_rfl, ?hy8⟩) (by assumption) ?rs8; (case hy8 => (intro w hSw; (try dsimp only at hSw); go_simp; first | done | with_reducible rfl)); case' rs8 => (simp only [List.getElem_toArray, List.getElem_cons_zero, List.getElem_cons_succ, Act.put, List.setIfInBounds_toArray, List.set_cons_zero, List.set_cons_succ])); skip
  have t0 := R2.at_ 0 rfl; have t1 := R2.at_ 1 rfl; have f0 := R2.frozen 0; have f1 := R2.frozen 1
  (refine wpAnyL_one (i := 9) (o := _) (by kernel_rfl) rfl (fun K hK => ?_); clear hHeld; simp only [List.getElem_toArray, List.getElem_cons_zero, List.getElem_cons_succ]; go_simp; refine hK.out _ _ ?_ (fun hHeld => ?_); focus (intro _; (have NF := (N9.far (p := ⟨w.heap.size + 1, 0, none⟩) hne (.bool hf)).far (p := ⟨w.heap.size + 1, 1, none⟩) hne (.bool m); exact ⟨NF.at_ 0 rfl, NF.at_ 1 rfl⟩))); have hHeld := hHeld (by decide); clear hK K; (try simp only [Act.put, List.setIfInBounds_toArray, List.set_cons_zero, List.set_cons_succ])
  refine wpAnyL_done (by kernel_rfl) ?_ _
  go_wp2
  exact bodyPost_ret (v := .tuple #[.int .u64 ((u + 1074) * 4503599627370496 + q), .agg #[.bool hf, .bool m]]) (by simp [results, Tryd.results114, go_sem, t0, t1]) rfl
    ⟨rfl, (below2 (D0.out.trans (D.out.mono D0.out.size)) (B := w.heap.size + 1) (by omega) (.bool hf) (.bool m)).drew⟩
theorem two_54 : (18014398509481984 : Int) < 4294967296 ^ 400 := Int.lt_of_lt_of_le (show (18014398509481984 : Int) < 4294967296 ^ 2 by decide) (pow_mono (by decide))
/-- what toward0 tells -/
theorem toward0_c (b : Bool) (A : Option Addr) (n c : Nat) (x z : Int) (w : World) (h : PV w (.slice A n c) 0 z) (hx : -20000 ≤ x ∧ x ≤ 20000) (hT : TabD w) :
    ∃ r hf m, Tow (sc z x) r hf m ∧ ∀ W, Below w.heap.size w W → Calls Tryd.prog 114 #[.agg #[.bool b, .slice A n c, .int .i64 x]] W (DC.RetB W (.tuple #[.int .u64 r, .agg #[.bool hf, .bool m]])) := by
  have sm := h.small
  have hlt := sm.2 rfl
  by_cases h0 : z = 0
  · subst h0
    obtain rfl := NV.zero h.nv
    exact ⟨0, false, false, by rw [sc_zero.2 rfl]; exact tow_zero, fun W hW => toward0_z b A c x W⟩
  · have hz : 0 < z := by omega
    have hn : n ≠ 0 := by
      rintro rfl
      obtain ⟨l, l1, l2, l3, l4⟩ := h.nv
      have en := l1.len_.1
      have := List.length_eq_zero_iff.1 en.symm
      rw [this] at l4
      simp [lv] at l4
      omega
    obtain ⟨k, k1, k2, k3, k4⟩ := bits_ex 12800 z hz (by rw [← pow_12800]; exact hlt)
    by_cases ht : k + x ≤ 1024
    · obtain ⟨u, hu⟩ : ∃ u : Int, u = max (k + x - 53) (-1074) := ⟨_, rfl⟩
      obtain ⟨t1, t2⟩ := tow_near (x := x) (by omega) k3 k4 k2 ht hu
      have hp := sh_pos sm.1 (x - u + 1)
      refine ⟨_, _, _, t2, fun W hW => toward0_near b A n c x z u k W (h.below hW) hn k3 k4 k2 k1 hx ht hu _ _ _ (by omega) (hT.below hW) fun W' hW' => ?_⟩
      exact split_c _ z (x - u) W' ((h.below hW).below hW') (by omega) (by omega) (Int.lt_trans t1 two_54) ((hT.below hW).below hW')
    · refine ⟨_, true, true, tow_far (t := 1024) rfl rfl ?_, fun W hW => toward0_far b A n c x z k W (h.below hW) hn k3 k4 k2 k1 hx (by omega)⟩
      have e1 : sc 1 (x + (k - 1 : Nat)) ≤ sc z x := by rw [← sc_two _ x (by omega), sc_le]; exact k4
      exact Int.le_trans (sc1_le (by omega) (by omega)) e1
/-- the rank that is told, and the number's bits -/
def ry (b : Bool) (r : Int) (hf m : Bool) (mode : Int) : Int := if up b (decide (r % 2 = 1)) hf m mode = true then r + 1 else r
def rx (b : Bool) (y : Int) : Int := if b = true then F.neg y else y
theorem number_c (b : Bool) (A : Option Addr) (n c : Nat) (x z r mode : Int) (hf m : Bool) (w : World) (h : PV w (.slice A n c) 0 z) (hx : -20000 ≤ x ∧ x ≤ 20000) (t : Tow (sc z x) r hf m) (hT : TabD w) :
    Calls Tryd.prog 77 #[.agg #[.bool b, .slice A n c, .int .i64 x], .int .i64 mode] w (DC.RetB w (.tuple #[.int .u64 (rx b (ry b r hf m mode)), .bool (hf || m)])) := by
  have D0 : Below w.heap.size w (w.alloc (.cells #[.bool b, .slice A n c, .int .i64 x] 35)) := al1 _ _
  have T0 : Hid (∀ W, Below w.heap.size w W → Calls Tryd.prog 114 #[.agg #[.bool b, .slice A n c, .int .i64 x]] W (DC.RetB W (.tuple #[.int .u64 r, .agg #[.bool hf, .bool m]]))) := by
    obtain ⟨r', h', m', t', hc⟩ := toward0_c b A n c x z w h hx hT
    obtain ⟨rfl, rfl, rfl⟩ := t.unique t'
    exact hc
  have r0 := t.r0
  have r1 := t.r1
  obtain ⟨u, hu⟩ : ∃ u, up b (decide (r % 2 = 1)) hf m mode = u := ⟨_, rfl⟩
  have AW : Hid (∀ W, Calls Tryd.prog 115 #[.agg #[.bool hf, .bool m], .bool b, .bool (decide (r % 2 = 1)), .int .i64 mode] W (DC.RetB W (.bool u))) := fun W => by
    have := away_c hf m b (decide (r % 2 = 1)) mode W
    rwa [hu] at this
  have NG : Hid (∀ (W : World) (y : Int), 0 ≤ y → y ≤ 9223372036854775807 → Calls Tryd.prog 14 #[.int .u64 y] W (fun e w' => e = .returned (.int .u64 (F.neg y)) ∧ W = w')) := fun W y h1 h2 => FloatC.Neg_c y h1 (by omega) W
  unfold ry rx
  rw [hu]
  have BX0 := BX.new w b A n c x
  obtain ⟨W0, hW0⟩ : ∃ W0, w.alloc (.cells #[.bool b, .slice A n c, .int .i64 x] 35) = W0 := ⟨_, rfl⟩
  rw [hW0] at D0 BX0
  have HW0 := Lib.hid hW0
  have KB : Hid (∀ W, Below W0.heap.size W0 W → BX W w.heap.size b A n c x) := fun W hW => BX0.below hW
  have D0 := Lib.hid D0
  have i1 : IntKind.u64.wrap (r + 1) = r + 1 := IntWalk.u64_in _ (by omega)
  have i2 : IntKind.u64.wrap (r % 2) = r % 2 := IntWalk.u64_in _ (by omega)
  have e5 : (r % 2 == 1) = decide (r % 2 = 1) := rfl
  clear hu t h hx hT hW0 BX0
  cases u <;> cases b
  all_goals (
    go_enter Tryd.func77, Tryd.ntmps77
    go_wp2_with (first
      | (go_at_call 114; rw [HW0.out]; (with_reducible refine (T0.out _ D0.out).mono ?_); rintro e w2 ⟨rfl, hb0⟩; have D := Lib.hid (hb0.alloc hb0.size (.cells #[.bool hf, .bool m] 130)); obtain ⟨p0, p1, p2⟩ := KB.out _ D.out)
      | (go_at_call 115; (try rw [e5]); (with_reducible refine (AW.out _).mono ?_); rintro e w3 ⟨rfl, hb3⟩; have D := Lib.hid (D.out.trans (hb3.mono D.out.size)); obtain ⟨p0, p1, p2⟩ := KB.out _ D.out; have N8 := (Blk.new w2 130 #[.bool hf, .bool m]).below hb3 (Blk.new w2 130 #[.bool hf, .bool m]).lt; have n0 := N8.at_ 0 rfl; have n1 := N8.at_ 1 rfl)
      | (go_at_call 14; (with_reducible refine (NG.out _ _ (by omega) (by omega)).mono ?_); rintro e w4 ⟨rfl, rfl⟩))
    clear T0 AW NG KB HW0 N8
    have D9 := Lib.hid (D0.out.trans (D.out.mono D0.out.size))
    cases hf <;> cases m
    all_goals (
      go_region
      go_wp2
      go_ret2
      exact ⟨rfl, D9.out.drew⟩))
end RC
end Go.Proofs.YtpmjeipdldnnbaaDoor

/-
  Package round: To; a half, twice.
-/
namespace Go.Proofs.YtpmjeipdldnnbaaDoor
set_option linter.unusedVariables false
set_option linter.unusedSimpArgs false
open Go.RowKit
set_option linter.unusedVariables false
set_option linter.unusedSimpArgs false
namespace RC
open L NC NK DC
open Z (Nz Tz cmpv)
theorem tow_ex {z x : Int} (h0 : 0 ≤ z) (hz : z < 4294967296 ^ 400) (hx : -20000 ≤ x ∧ x ≤ 20000) : ∃ r h m, Tow (sc z x) r h m := by
  by_cases h : z = 0
  · subst h; exact ⟨0, false, false, by rw [sc_zero.2 rfl]; exact tow_zero⟩
  · obtain ⟨k, k1, k2, k3, k4⟩ := bits_ex 12800 z (by omega) (by rw [← pow_12800]; exact hz)
    by_cases ht : k + x ≤ 1024
    · exact ⟨_, _, _, (tow_near (x := x) (by omega) k3 k4 k2 ht rfl).2⟩
    · refine ⟨_, true, true, tow_far (t := 1024) rfl rfl ?_⟩
      have e1 : sc 1 (x + (k - 1 : Nat)) ≤ sc z x := by rw [← sc_two _ x (by omega), sc_le]; exact k4
      exact Int.le_trans (sc1_le (by omega) (by omega)) e1
/-- how far from 0 -/
def A (d : Dy) : Int := sc (d.m.natAbs : Int) d.x
def ng (d : Dy) : Bool := decide (d.m < 0)
theorem abs_small {d : Dy} (h : inb d.m d.x) : (d.m.natAbs : Int) < 4294967296 ^ 400 := by
  obtain ⟨h1, h2, -⟩ := h
  generalize (4294967296 : Int) ^ 400 = c400 at *
  omega
theorem towA {d : Dy} (h : Ok d) : ∃ r hf m, Tow (A d) r hf m ∧ tow (A d) = (r, hf, m) := by
  obtain ⟨r, hf, m, t⟩ := tow_ex (z := (d.m.natAbs : Int)) (x := d.x) (by omega) (abs_small h.2.2) (by have := h.2.2.2.2; omega)
  exact ⟨r, hf, m, t, tow_eq t⟩
/-- what To tells of a number -/
noncomputable def YY (b : Bool) (a : Int) (mode : Int) : Int := ry b (tow a).1 (tow a).2.1 (tow a).2.2 mode
noncomputable def LL (a : Int) : Bool := (tow a).2.1 || (tow a).2.2
noncomputable def TX (d : Dy) (mode : Int) : Int := if d.er = 0 ∧ 0 ≤ mode ∧ mode ≤ 4 then rx (ng d) (YY (ng d) (A d) mode) else 0
noncomputable def TL (d : Dy) (mode : Int) : Bool := if d.er = 0 ∧ 0 ≤ mode ∧ mode ≤ 4 then LL (A d) else false
def TE (d : Dy) (mode : Int) : Int := if d.er ≠ 0 then d.er else if 0 ≤ mode ∧ mode ≤ 4 then 0 else 1
theorem GV.tow {w : World} {b A n c x d} (g : GV w b A n c x d) : ∃ r hf m, Tow (sc (d.m.natAbs : Int) x) r hf m ∧ tow (RC.A d) = (r, hf, m) := by
  obtain ⟨h1, hb, hx, he, hc, hi⟩ := g
  obtain ⟨r, hf, m, t, e⟩ := towA ⟨he, hc, hi⟩
  rw [hx]
  exact ⟨r, hf, m, t, e⟩
theorem To_d (v : Value) (d : Dy) (mode : Int) (w : World) (h : DV w v d) (hT : TabD w) : Calls Tryd.prog 32 #[v, .int .i64 mode] w (DC.RetB w (.tuple #[.int .u64 (TX d mode), .bool (TL d mode), .int .i64 (TE d mode)])) := by
  have C1 : ∀ W, Below w.heap.size w W → Calls Tryd.prog 68 #[v] W (DC.RetB W (.int .i64 d.er)) := fun W hW => Check_d v d W (h.below hW)
  obtain ⟨b1, A1, n1, c1, x1, l1, rfl, -, -, -, -, g1, -⟩ := h
  have X0 := BX.new w b1 A1 n1 c1 x1
  have D0 := al1 w (.cells #[.bool b1, .slice A1 n1 c1, .int .i64 x1] 35)
  obtain ⟨W0, hW0⟩ : ∃ W0, w.alloc (.cells #[.bool b1, .slice A1 n1 c1, .int .i64 x1] 35) = W0 := ⟨_, rfl⟩
  rw [hW0] at X0 D0
  have C1 := Lib.hid (C1 W0 D0)
  have IM : Hid (∀ W, Calls Tryd.prog 76 #[.int .i64 mode] W (fun e w' => e = .returned (.bool (decide (0 ≤ mode ∧ mode ≤ 4))) ∧ W = w')) := fun W => isMode_c mode W
  have KB : Hid (∀ W, Below W0.heap.size W0 W → BX W w.heap.size b1 A1 n1 c1 x1) := fun W hW => X0.below hW
  have HW0 := Lib.hid hW0
  unfold TX TL TE
  obtain ⟨E, hE⟩ : ∃ E, d.er = E := ⟨_, rfl⟩
  rw [hE] at C1 ⊢
  by_cases h0 : E = 0
  · have t1 : (E != 0) = false := by simp [h0]
    by_cases hm : 0 ≤ mode ∧ mode ≤ 4
    · rw [if_pos ⟨h0, hm⟩, if_pos ⟨h0, hm⟩, if_neg (by simpa using h0), if_pos hm]
      rw [decide_eq_true hm] at IM
      have g := g1 (hE.trans h0)
      have hx := g.2.2.1
      have hi := g.2.2.2.2.2
      obtain ⟨r, hf, m, t, et⟩ := GV.tow g
      have NU : Hid (∀ W, Below W0.heap.size W0 W → Calls Tryd.prog 77 #[.agg #[.bool b1, .slice A1 n1 c1, .int .i64 x1], .int .i64 mode] W (DC.RetB W (.tuple #[.int .u64 (rx (ng d) (YY (ng d) (RC.A d) mode)), .bool (LL (RC.A d))]))) := fun W hW => by
        have := number_c b1 A1 n1 c1 x1 _ r mode hf m W ((g.pv.below D0).below hW) (by have := hi.2.2; omega) t ((hT.below D0).below hW)
        unfold YY LL ng
        rw [et, ← g.2.1]
        exact this
      generalize rx (ng d) (YY (ng d) (RC.A d) mode) = X at *
      generalize LL (RC.A d) = Lo at *
      clear h0 hE hW0 g1 hT t et hi g hm hx X0
      have D0 := Lib.hid D0
      go_enter Tryd.func32, Tryd.ntmps32
      go_wp2_with (first
        | (go_at_call 68; rw [HW0.out]; (with_reducible refine (C1.out).mono ?_); rintro e w2 ⟨rfl, hb0⟩; have D := Lib.hid hb0; obtain ⟨p0, p1, p2⟩ := KB.out _ D.out)
        | (go_at_call 76; (with_reducible refine (IM.out _).mono ?_); rintro e w3 ⟨rfl, rfl⟩)
        | (go_at_call 77; (with_reducible refine (NU.out _ D.out).mono ?_); rintro e w4 ⟨rfl, hb4⟩; have D := Lib.hid (D.out.trans (hb4.mono D.out.size))))
      go_ret3
      exact ⟨by simp [t1], D0.out.trans (D.out.mono D0.out.size)⟩
    · rw [if_neg (fun h => hm h.2), if_neg (fun h => hm h.2), if_neg (by simpa using h0), if_neg hm]
      rw [decide_eq_false hm] at IM
      clear h0 hE hW0 g1 hT hm X0
      have D0 := Lib.hid D0
      go_enter Tryd.func32, Tryd.ntmps32
      go_wp2_with (first
        | (go_at_call 68; rw [HW0.out]; (with_reducible refine (C1.out).mono ?_); rintro e w2 ⟨rfl, hb0⟩; have D := Lib.hid hb0; obtain ⟨p0, p1, p2⟩ := KB.out _ D.out)
        | (go_at_call 76; (with_reducible refine (IM.out _).mono ?_); rintro e w3 ⟨rfl, rfl⟩))
      go_ret3
      exact ⟨rfl, D0.out.trans (D.out.mono D0.out.size)⟩
  · rw [if_neg (fun h => h0 h.1), if_neg (fun h => h0 h.1), if_pos h0]
    have t1 : (E != 0) = true := by simp [h0]
    clear h0 hE hW0 g1 hT X0
    have D0 := Lib.hid D0
    go_enter Tryd.func32, Tryd.ntmps32
    go_wp2_with (first
      | (go_at_call 68; rw [HW0.out]; (with_reducible refine (C1.out).mono ?_); rintro e w2 ⟨rfl, hb0⟩; have D := Lib.hid hb0))
    go_ret3
    exact ⟨rfl, D0.out.trans (D.out.mono D0.out.size)⟩
theorem ok2' (W : World) (x1 x2 : Int) (o : Bool) (ho : [x1, x2].all (· == 0) = o) : Calls Tryd.prog 15 #[.slice (some ⟨W.heap.size, 0, none⟩) 2 2] (W.alloc (.cells #[.int .i64 x1, .int .i64 x2] 25)) fun e w' => e = .returned (.bool o) ∧ W.alloc (.cells #[.int .i64 x1, .int .i64 x2] 25) = w' := by
  have h1 := ok_lit W [x1, x2] (by simp)
  rw [ho] at h1
  exact h1
/-- halfway between two -/
def hd : Dy := ⟨0, 9007199254740993, -53⟩
theorem tow_half {x : Int} (hx : x = -53) : Tow (sc 9007199254740993 x) 4607182418800017408 true false := by
  have := tow_near (z := 9007199254740993) (x := x) (b := 54) (by omega) (by decide) (by decide) (by omega) (by omega) (u := -52) (by omega)
  have h := this.2
  rw [show x - -52 + 1 = 0 by omega, show sh 9007199254740993 0 = 9007199254740993 by decide] at h
  exact h
theorem hd_ok : Ok hd := ⟨rfl, .inr (by decide), by
  have : (4294967296 : Int) ^ 2 ≤ 4294967296 ^ 400 := pow_mono (by decide)
  show (9007199254740993 : Int) < 4294967296 ^ 400 ∧ -(4294967296 ^ 400) < (9007199254740993 : Int) ∧ (-10000 : Int) ≤ -53 ∧ (-53 : Int) ≤ 10000
  generalize (4294967296 : Int) ^ 400 = c400 at *
  omega⟩
theorem TX_half : TX hd 0 = 4607182418800017408 ∧ TL hd 0 = true ∧ TE hd 0 = 0 ∧ TX hd 1 = 4607182418800017409 ∧ TE hd 1 = 0 := by
  have t := tow_eq (tow_half (x := hd.x) rfl)
  have e : A hd = sc 9007199254740993 hd.x := rfl
  unfold TX TL TE YY LL
  rw [e, t]
  refine ⟨?_, ?_, rfl, ?_, rfl⟩ <;> rfl
theorem half_dv (W : World) : DV ((W.alloc (.cells #[.int .u32 1, .int .u32 2097152] 89)).alloc (.cells #[.bool false, .slice (some ⟨W.heap.size, 0, none⟩) 2 2, .int .i64 (-53)] 35)) (.agg #[.bool false, .slice (some ⟨W.heap.size, 0, none⟩) 2 2, .int .i64 (-53)]) hd := by
  have g : GV (W.alloc (.cells #[.int .u32 1, .int .u32 2097152] 89)) false (some ⟨W.heap.size, 0, none⟩) 2 2 (-53) hd := by
    refine ⟨⟨[1, 2097152], Row.sl (L := [1, 2097152]) (Blk.new W 89 #[.int .u32 1, .int .u32 2097152]) 2 (by simp), by intro d hd; simp at hd; omega, by intro h; simp, ?_⟩, ?_, rfl, rfl, hd_ok.2.1, hd_ok.2.2⟩
    · simp [lv, hd]
    · simp [hd]
  exact (g.below (al1 _ _)).dv
end RC
end Go.Proofs.YtpmjeipdldnnbaaDoor

/-
  Rounding, pure: what the laws ask.
-/
namespace Go.Proofs.YtpmjeipdldnnbaaDoor
set_option linter.unusedVariables false
set_option linter.unusedSimpArgs false
open Go.RowKit
set_option linter.unusedVariables false
set_option linter.unusedSimpArgs false
namespace RC
open L NC NK DC
open Z (Nz Tz cmpv)
theorem A_abs (d : Dy) : (0 ≤ S d → A d = S d ∧ ng d = false) ∧ (S d < 0 → A d = -S d ∧ ng d = true) := by
  have hp := sc_one_pos d.x
  have e1 : S d = d.m * sc 1 d.x := sc_mul1 _ _
  have e2 : A d = (d.m.natAbs : Int) * sc 1 d.x := sc_mul1 _ _
  rw [e1, e2]
  unfold ng
  generalize sc 1 d.x = P at *
  constructor
  · intro h
    have hm : 0 ≤ d.m := by
      rcases Int.lt_or_le d.m 0 with h1 | h1
      · have := Int.mul_neg_of_neg_of_pos h1 hp; omega
      · exact h1
    exact ⟨by rw [show (d.m.natAbs : Int) = d.m by omega], by simp; omega⟩
  · intro h
    have hm : d.m < 0 := by
      rcases Int.lt_or_le d.m 0 with h1 | h1
      · exact h1
      · have := Int.mul_nonneg h1 (Int.le_of_lt hp); omega
    exact ⟨by rw [show (d.m.natAbs : Int) = -d.m by omega, Int.neg_mul], by simp; omega⟩
theorem tow_exact {r : Int} (h0 : 0 ≤ r) (h1 : r ≤ 9218868437227405311) : Tow (U r) r false false := by
  have := U_lt h0 (show r < r + 1 by omega)
  refine ⟨h0, h1, Int.le_refl _, fun _ => this, ?_, ?_⟩
  · symm; rw [decide_eq_false_iff_not]; omega
  · symm; rw [decide_eq_false_iff_not]; intro h; exact h.1 rfl
theorem up_none (b o : Bool) (mode : Int) : up b o false false mode = false := by unfold up; simp
theorem ry_none (b : Bool) (r mode : Int) : ry b r false false mode = r := by unfold ry; rw [up_none]; simp
theorem rx_bd {b : Bool} {y : Int} (h0 : 0 ≤ y) (h1 : y ≤ 9218868437227405312) : 0 ≤ rx b y ∧ rx b y ≤ 18446744073709551615 ∧ F.nn (rx b y) ∧ F.rnk (rx b y) = (if b = true then -y else y) := by
  unfold rx F.nn F.rnk F.neg
  cases b
  · simp; omega
  · simp
    rw [if_pos (by omega)]
    refine ⟨by omega, by omega, by omega, ?_⟩
    rw [if_neg (by omega)]; omega
theorem ry_bd {b : Bool} {a r : Int} {hf m : Bool} (t : Tow a r hf m) (mode : Int) : 0 ≤ ry b r hf m mode ∧ ry b r hf m mode ≤ 9218868437227405312 ∧ r ≤ ry b r hf m mode ∧ ry b r hf m mode ≤ r + 1 := by
  have h0 := t.r0
  have h1 := t.r1
  unfold ry
  split <;> omega
theorem up_mono {b o hf m hf' m' : Bool} {mode : Int} (i1 : hf = true → hf' = true) (i2 : hf = true → m = true → m' = true) (i3 : m = true → hf' = true ∨ m' = true) : up b o hf m mode = true → up b o hf' m' mode = true := by
  unfold up
  by_cases m1 : mode = 1
  · subst m1; cases hf <;> cases m <;> cases hf' <;> cases m' <;> simp_all
  · by_cases m2 : mode = 2
    · subst m2; cases hf <;> cases m <;> cases hf' <;> cases m' <;> simp_all
    · by_cases m3 : mode = 3
      · subst m3; cases hf <;> cases m <;> cases hf' <;> cases m' <;> simp_all
      · by_cases m0 : mode = 0
        · subst m0; cases hf <;> cases m <;> cases hf' <;> cases m' <;> simp_all
        · cases hf <;> cases m <;> cases hf' <;> cases m' <;> simp_all
/-- of what is farther from 0 no less comes -/
theorem ry_mono {b : Bool} {a a' r r' : Int} {hf m hf' m' : Bool} (t : Tow a r hf m) (t' : Tow a' r' hf' m') (h : a ≤ a') (mode : Int) : ry b r hf m mode ≤ ry b r' hf' m' mode := by
  have hle : r ≤ r' := by
    rcases Int.lt_or_le r' r with h1 | h1
    · exfalso
      have c1 := U_le (r := r' + 1) (s := r) (by have := t'.r0; omega) (by omega)
      have c2 := t'.hi (by have := t.r1; omega)
      have c3 := t.lo
      omega
    · exact h1
  have k1 := ry_bd (b := b) t mode
  have k2 := ry_bd (b := b) t' mode
  rcases Int.lt_or_eq_of_le hle with h1 | rfl
  · omega
  · -- the same rank
    have g := U_lt t.r0 (show r < r + 1 by omega)
    have q1 := t.hh
    have q2 := t.hm
    have q3 := t'.hh
    have q4 := t'.hm
    have lo1 := t.lo
    generalize U r = u0 at *
    generalize U (r + 1) = u1 at *
    have i1 : hf = true → hf' = true := by
      rw [q1, q3, decide_eq_true_iff, decide_eq_true_iff]; omega
    have i2 : hf = true → m = true → m' = true := by
      rw [q1, q2, q4, decide_eq_true_iff, decide_eq_true_iff, decide_eq_true_iff]; omega
    have i3 : m = true → hf' = true ∨ m' = true := by
      rw [q2, q3, q4, decide_eq_true_iff, decide_eq_true_iff, decide_eq_true_iff]; omega
    have hup := up_mono (b := b) (o := decide (r % 2 = 1)) (mode := mode) i1 i2 i3
    unfold ry
    by_cases h2 : up b (decide (r % 2 = 1)) hf m mode = true
    · rw [if_pos h2, if_pos (hup h2)]; omega
    · rw [if_neg h2]; split <;> omega
/-- To by Tow -/
theorem TX_of {d : Dy} {mode r : Int} {hf m : Bool} (h : Ok d) (hm : 0 ≤ mode ∧ mode ≤ 4) (t : Tow (A d) r hf m) : TX d mode = rx (ng d) (ry (ng d) r hf m mode) ∧ TL d mode = (hf || m) ∧ TE d mode = 0 := by
  have e := tow_eq t
  unfold TX TL TE YY LL
  rw [if_pos ⟨h.1, hm⟩, if_pos ⟨h.1, hm⟩, if_neg (by simpa using h.1), if_pos hm, e]
  exact ⟨rfl, rfl, rfl⟩
theorem TX_bd (d : Dy) (mode : Int) (h : d.er = 0 → Ok d) : 0 ≤ TX d mode ∧ TX d mode ≤ 18446744073709551615 ∧ F.nn (TX d mode) := by
  by_cases h0 : d.er = 0 ∧ 0 ≤ mode ∧ mode ≤ 4
  · obtain ⟨r, hf, m, t, -⟩ := towA (h h0.1)
    have k := ry_bd (b := ng d) t mode
    rw [(TX_of (h h0.1) h0.2 t).1]
    have := rx_bd (b := ng d) k.1 k.2.1
    exact ⟨this.1, this.2.1, this.2.2.1⟩
  · unfold TX
    rw [if_neg h0]
    exact ⟨by omega, by omega, by unfold F.nn; omega⟩
theorem TE_0 {d : Dy} {mode : Int} (h : TE d mode = 0) : d.er = 0 ∧ 0 ≤ mode ∧ mode ≤ 4 := by
  unfold TE at h
  by_cases h0 : d.er = 0
  · rw [if_neg (by simpa using h0)] at h
    by_cases h1 : 0 ≤ mode ∧ mode ≤ 4
    · exact ⟨h0, h1⟩
    · rw [if_neg h1] at h; cases h
  · rw [if_pos h0] at h; exact absurd h h0
/-- of what is more no less comes -/
theorem order_p {c d : Dy} (hc : Ok c) (hd : Ok d) {mode : Int} (hm : 0 ≤ mode ∧ mode ≤ 4) (h : S c ≤ S d) : F.rnk (TX c mode) ≤ F.rnk (TX d mode) := by
  obtain ⟨r, hf, m, t, -⟩ := towA hc
  obtain ⟨r', hf', m', t', -⟩ := towA hd
  rw [(TX_of hc hm t).1, (TX_of hd hm t').1]
  have k1 := ry_bd (b := ng c) t mode
  have k2 := ry_bd (b := ng d) t' mode
  rw [(rx_bd k1.1 k1.2.1).2.2.2, (rx_bd k2.1 k2.2.1).2.2.2]
  have a1 := A_abs c
  have a2 := A_abs d
  rcases Int.lt_or_le (S c) 0 with s1 | s1
  · have b1 := a1.2 s1
    rcases Int.lt_or_le (S d) 0 with s2 | s2
    · have b2 := a2.2 s2
      rw [b1.2, b2.2]
      have := ry_mono (b := true) t' t (by omega) mode
      simp; exact this
    · have b2 := a2.1 s2
      rw [b1.2] at k1 ⊢
      rw [b2.2] at k2 ⊢
      simp; omega
  · have b1 := a1.1 s1
    have b2 := a2.1 (by omega)
    rw [b1.2, b2.2]
    have := ry_mono (b := false) t t' (by omega) mode
    simp; exact this
/-- down, up, and the others -/
theorem sides_p {d : Dy} (h : Ok d) {mode : Int} (hm : 0 ≤ mode ∧ mode ≤ 4) : TL d 2 = TL d mode ∧ TL d 1 = TL d mode ∧ (TX d mode = TX d 2 ∨ TX d mode = TX d 1) ∧ (TL d mode = false → TX d 2 = TX d 1) ∧
    (TL d mode = true → F.rnk (TX d 1) = F.rnk (TX d 2) + 1) ∧ (mode = 3 → TX d mode = if ng d = true then TX d 1 else TX d 2) := by
  obtain ⟨r, hf, m, t, -⟩ := towA h
  obtain ⟨x1, l1, -⟩ := TX_of h hm t
  obtain ⟨x2, l2, -⟩ := TX_of h (mode := 2) (by omega) t
  obtain ⟨x3, l3, -⟩ := TX_of h (mode := 1) (by omega) t
  rw [x1, x2, x3, l1, l2, l3]
  have k2 := ry_bd (b := ng d) t 2
  have k3 := ry_bd (b := ng d) t 1
  rw [(rx_bd k2.1 k2.2.1).2.2.2, (rx_bd k3.1 k3.2.1).2.2.2]
  clear x1 x2 x3 l1 l2 l3 k2 k3
  refine ⟨rfl, rfl, ?_, ?_, ?_, ?_⟩
  · have k := ry_bd (b := ng d) t mode
    by_cases hl : hf = false ∧ m = false
    · obtain ⟨rfl, rfl⟩ := hl
      rw [ry_none, ry_none]; exact .inl rfl
    · have e2 : ry (ng d) r hf m 2 = if ng d = true then r + 1 else r := by unfold ry up; rw [if_neg hl]; simp
      have e1 : ry (ng d) r hf m 1 = if ng d = true then r else r + 1 := by unfold ry up; rw [if_neg hl]; cases ng d <;> simp
      rw [e1, e2]
      have : ry (ng d) r hf m mode = r ∨ ry (ng d) r hf m mode = r + 1 := by omega
      rcases this with h | h <;> rw [h] <;> cases ng d <;> simp
  · intro hl; cases ng d <;> cases hf <;> cases m <;> simp_all [ry, up]
  · intro hl; cases ng d <;> cases hf <;> cases m <;> simp_all [ry, up] <;> omega
  · rintro rfl; cases ng d <;> cases hf <;> cases m <;> simp [ry, up]
/-- turned -/
def tm (mode : Int) : Int := if mode = 1 then 2 else if mode = 2 then 1 else mode
theorem turned_p {d : Dy} (h : Ok d) (h0 : d.m ≠ 0) {mode : Int} (hm : 0 ≤ mode ∧ mode ≤ 4) : Ok (neg d) ∧ TE (neg d) (tm mode) = 0 ∧ TX (neg d) (tm mode) = F.neg (TX d mode) ∧ TL (neg d) (tm mode) = TL d mode := by
  have hn : Ok (neg d) := by
    obtain ⟨a, b, c⟩ := h
    refine ⟨a, ?_, ?_⟩
    · unfold can at *
      show (-d.m = 0 ∧ d.x = 0) ∨ -d.m % 2 = 1
      omega
    · unfold inb at *
      show -d.m < _ ∧ _ < -d.m ∧ -10000 ≤ d.x ∧ d.x ≤ 10000
      generalize (4294967296 : Int) ^ 400 = c400 at *
      omega
  obtain ⟨r, hf, m, t, -⟩ := towA h
  have e : A (neg d) = A d := by
    unfold A
    show sc ((-d.m).natAbs : Int) d.x = sc (d.m.natAbs : Int) d.x
    rw [Int.natAbs_neg]
  have hm' : 0 ≤ tm mode ∧ tm mode ≤ 4 := by unfold tm; split; omega; split <;> omega
  have eg : ng (neg d) = !ng d := by
    unfold ng
    show decide (-d.m < 0) = !decide (d.m < 0)
    by_cases h1 : d.m < 0 <;> simp [h1] <;> omega
  obtain ⟨x1, l1, -⟩ := TX_of h hm t
  obtain ⟨x2, l2, e2⟩ := TX_of hn hm' (by rw [e]; exact t)
  have k := ry_bd (b := ng d) t mode
  refine ⟨hn, e2, ?_, by rw [l1, l2]⟩
  rw [x1, x2, eg]
  have eu : up (!ng d) (decide (r % 2 = 1)) hf m (tm mode) = up (ng d) (decide (r % 2 = 1)) hf m mode := by
    generalize decide (r % 2 = 1) = o
    generalize ng d = b
    unfold up tm
    by_cases m1 : mode = 1
    · subst m1; cases b <;> simp
    · by_cases m2 : mode = 2
      · subst m2; cases b <;> simp
      · simp [m1, m2]
  have ey : ry (!ng d) r hf m (tm mode) = ry (ng d) r hf m mode := by unfold ry; rw [eu]
  rw [ey]
  generalize ry (ng d) r hf m mode = y at *
  unfold rx
  cases ng d
  · simp
  · simp
    exact (F.neg_neg y (by omega) (by omega)).symm
/-- what is a number -/
theorem of_p {x : Int} (h0 : 0 ≤ x) (h1 : x ≤ 18446744073709551615) (h2 : F.exq x ≠ 2047) : (OfD x).e = 0 ∧ Ok (OfD x).d ∧ S (OfD x).d = sgm (F.sgn x) (U (x % 9223372036854775808)) ∧ x % 9223372036854775808 ≤ 9218868437227405311 := by
  have hb := F.exq_bd x
  have hf := F.fra_bd x
  have hx := F.mk_parts x h0 h1
  have hr : x % 9223372036854775808 = F.exq x * 4503599627370496 + F.fra x := by unfold F.exq F.fra; omega
  have mb : 0 ≤ mant x ∧ mant x < 9007199254740992 := by unfold mant; split <;> omega
  obtain ⟨k, hk⟩ : ∃ k : Nat, F.ulp x + 1074 = k := ⟨(F.ulp x + 1074).toNat, by unfold F.ulp; split <;> omega⟩
  have hkq : x % 9223372036854775808 = k * 4503599627370496 + mant x ∧ (k = 0 ∨ 4503599627370496 ≤ mant x) := by
    rw [hr]
    unfold F.ulp at hk
    unfold mant
    by_cases h : 0 < F.exq x
    · rw [if_pos h]; rw [if_pos (by omega)] at hk; exact ⟨by omega, by omega⟩
    · rw [if_neg h]; rw [if_neg (by omega)] at hk; exact ⟨by omega, by omega⟩
  have ub : -1074 ≤ F.ulp x ∧ F.ulp x ≤ 971 := by unfold F.ulp; split <;> omega
  have eU := (U_of mb.1 mb.2 hkq.2).1
  rw [← hkq.1, show (k : Int) - 1074 = F.ulp x by omega] at eU
  have e1 : OfD x = fin (sgm (F.sgn x) (mant x)) (F.ulp x) := by unfold OfD; rw [if_neg h2]
  have e0 : (fin (sgm (F.sgn x) (mant x)) (F.ulp x)).e = 0 := by
    by_cases hz : mant x = 0
    · rw [hz, show sgm (F.sgn x) 0 = 0 by cases F.sgn x <;> rfl, fin_zero]
    · obtain ⟨o, o1, o2⟩ := tz_spec (m := mant x) hz
      have os := odd_small o1 (by omega)
      have ht : tz (mant x) < 53 := by
        have h3 := Int.mul_le_mul_of_nonneg_right (show (1 : Int) ≤ o by omega) (Int.le_of_lt (two_pos' (tz (mant x))))
        exact two_lt (b := 53) (Int.lt_of_le_of_lt (by omega) mb.2)
      have hi : inb (sgm (F.sgn x) o) (F.ulp x + tz (mant x)) := by
        have : (4294967296 : Int) ^ 2 ≤ 4294967296 ^ 400 := pow_mono (by decide)
        unfold inb sgm
        generalize (4294967296 : Int) ^ 400 = c400 at *
        cases F.sgn x <;> simp <;> omega
      rw [fin_sg o1 o2, if_pos hi]
  have es := fin_sc (show -60000 ≤ F.ulp x by omega) e0
  rw [e1]
  refine ⟨e0, fin_ok _ _, ?_, by rw [hr]; omega⟩
  unfold S
  rw [es, eU]
  unfold sgm
  cases F.sgn x
  · simp; exact sc_mul1 _ _
  · simp; rw [sc_neg, sc_mul1]
theorem same_p {x mode : Int} (h0 : 0 ≤ x) (h1 : x ≤ 18446744073709551615) (h2 : F.exq x ≠ 2047) (hm : 0 ≤ mode ∧ mode ≤ 4) :
    TE (OfD x).d mode = 0 ∧ TL (OfD x).d mode = false ∧ ((TX (OfD x).d mode == x) = true ∨ ((TX (OfD x).d mode == x) = false ∧ x = 9223372036854775808 ∧ TX (OfD x).d mode = 0)) := by
  obtain ⟨e, hok, hS, hr⟩ := of_p h0 h1 h2
  have hr0 : 0 ≤ x % 9223372036854775808 := by omega
  have hU := U_pos hr0
  have aa := A_abs (OfD x).d
  have eA : A (OfD x).d = U (x % 9223372036854775808) := by
    rw [hS] at aa
    unfold sgm at aa
    cases hs : F.sgn x <;> rw [hs] at aa <;> simp at aa
    · exact (aa.1 hU).1
    · rcases Int.lt_or_eq_of_le hU with h | h
      · exact (aa.2 h).1
      · have := (aa.1 (by omega)).1; omega
  have t := tow_exact hr0 hr
  rw [← eA] at t
  obtain ⟨x1, l1, e1⟩ := TX_of hok hm t
  refine ⟨e1, by rw [l1]; rfl, ?_⟩
  rw [x1, ry_none]
  by_cases hz : x % 9223372036854775808 = 0
  · have hg : ng (OfD x).d = false := by
      rw [hz, U_zero] at hS
      exact (aa.1 (by rw [hS]; cases F.sgn x <;> simp [sgm])).2
    rw [hg, hz]
    unfold rx
    simp
    omega
  · have hUp : 0 < U (x % 9223372036854775808) := by
      have := U_lt (r := 0) (s := x % 9223372036854775808) (by omega) (by omega)
      rwa [U_zero] at this
    left
    rw [beq_iff_eq]
    unfold rx
    cases hs : F.sgn x
    · have hg := (aa.1 (by rw [hS, hs]; unfold sgm; simp; omega)).2
      rw [hg]
      have := (F.sgn_iff' x).1 hs
      simp; omega
    · have hg := (aa.2 (by rw [hS, hs]; unfold sgm; simp; omega)).2
      rw [hg]
      have := (F.sgn_iff x).1 hs
      unfold F.neg
      simp; omega
end RC
end Go.Proofs.YtpmjeipdldnnbaaDoor

/-
  Package sum, pure: sums of lists; what has no value; zeros.
-/
namespace Go.Proofs.YtpmjeipdldnnbaaDoor
set_option linter.unusedVariables false
set_option linter.unusedSimpArgs false
open Go.RowKit
set_option linter.unusedVariables false
set_option linter.unusedSimpArgs false
namespace SC
open L NC NK DC RC
/-- what fits easily -/
structure Fit (d : Dy) (k : Int) : Prop where
  ok : Ok d
  x : -1074 ≤ d.x
  hi : S d ≤ k * sc 1 1024
  lo : -(k * sc 1 1024) ≤ S d
theorem two_lt' {a b : Nat} (h : a < b) : (2 : Int) ^ a < 2 ^ b := by
  obtain ⟨k, rfl⟩ : ∃ k, b = a + 1 + k := ⟨b - a - 1, by omega⟩
  rw [Int.pow_add, Int.pow_succ]
  have h1 := two_pos' a
  have h2 := two_pos' k
  have h3 := Int.mul_le_mul_of_nonneg_left (show (1 : Int) ≤ 2 ^ k by omega) (show (0 : Int) ≤ 2 ^ a * 2 by omega)
  omega
theorem big_small {n : Nat} (h : n = 2106) : (2 : Int) ^ n < 4294967296 ^ 400 := by
  have e : (4294967296 : Int) = 2 ^ 32 := by decide
  rw [e, ← Int.pow_mul]
  exact two_lt' (by omega)
theorem inb_fit {o x t : Int} (ht : t = 1032) (ho : o ≠ 0) (hx : -1074 ≤ x) (h1 : sc o x ≤ sc 1 t) (h2 : -(sc 1 t) ≤ sc o x) : inb o x := by
  have hp := sc_one_pos x
  have e1 : sc o x = o * sc 1 x := sc_mul1 _ _
  have hxt : x ≤ t := by
    rcases Int.lt_or_le t x with h | h
    · exfalso
      have h3 : sc 1 t < sc 1 x := by
        have h4 := sc1_le (x := t + 1) (y := x) (by omega) (by omega)
        have h5 := sc_shift 1 t 1 (by omega)
        rw [show (1 : Int) * 2 ^ 1 = 2 by decide, show t + ((1 : Nat) : Int) = t + 1 by omega, sc_mul1] at h5
        have := sc_one_pos t
        omega
      rw [e1] at h1 h2
      generalize sc 1 x = E at *
      generalize sc 1 t = B at *
      rcases Int.lt_or_le o 0 with h | h
      · have := Int.mul_le_mul_of_nonneg_right (show o ≤ -1 by omega) (Int.le_of_lt hp)
        omega
      · have := Int.mul_le_mul_of_nonneg_right (show 1 ≤ o by omega) (Int.le_of_lt hp)
        omega
    · exact h
  obtain ⟨n, hn⟩ : ∃ n : Nat, n = 2106 := ⟨_, rfl⟩
  have e2 : sc 1 t = 2 ^ n * sc 1 (-1074) := by
    rw [← sc_mul1, sc_two n _ (by omega)]
    congr 1; omega
  have e3 := sc1_le (x := -1074) (y := x) (by omega) (by omega)
  have hq := sc_one_pos (-1074)
  have hb := big_small hn
  rw [e1, e2] at h1 h2
  have hP := two_pos' n
  have hx2 : x ≤ 1032 := by omega
  clear e2 hn ht
  have l1 : o ≤ 2 ^ n := by
    rcases Int.lt_or_le (2 ^ n) o with h | h
    · exfalso
      have a := Int.mul_le_mul_of_nonneg_right (show 2 ^ n + 1 ≤ o by omega) (Int.le_of_lt hp)
      have b := Int.mul_le_mul_of_nonneg_left e3 (Int.le_of_lt hP)
      rw [Int.add_mul, Int.one_mul] at a
      omega
    · exact h
  have l2 : -(2 ^ n) ≤ o := by
    rcases Int.lt_or_le o (-(2 ^ n)) with h | h
    · exfalso
      have a := Int.mul_le_mul_of_nonneg_right (show o ≤ -(2 ^ n) - 1 by omega) (Int.le_of_lt hp)
      have b := Int.mul_le_mul_of_nonneg_left e3 (Int.le_of_lt hP)
      rw [Int.sub_mul, Int.one_mul, Int.neg_mul] at a
      omega
    · exact h
  unfold inb
  generalize (4294967296 : Int) ^ 400 = c400 at *
  omega
theorem fin_x {m x : Int} (h : (fin m x).e = 0) : (fin m x).d.m = 0 ∨ x ≤ (fin m x).d.x := by
  by_cases h0 : m = 0
  · subst h0; rw [fin_zero]; exact .inl rfl
  · obtain ⟨o, h1, h2⟩ := tz_spec h0
    rw [fin_of h1 h2] at h ⊢
    by_cases hi : inb o (x + tz m)
    · rw [if_pos hi]; right; show x ≤ x + _; omega
    · rw [if_neg hi] at h; cases h
theorem fin_x' {m x : Int} (h : (fin m x).e = 0) (hx : -1074 ≤ x) : -1074 ≤ (fin m x).d.x := by
  rcases fin_x h with h1 | h1
  · have := (fin_ok m x).2.1
    unfold can at this
    omega
  · omega
theorem fit_lim {j t : Int} (hj : j ≤ 256) (ht : t = 1032) : j * sc 1 1024 ≤ sc 1 t := by
  have h := sc_two 8 1024 (by omega)
  have h' : sc 1 t = 256 * sc 1 1024 := by
    rw [← sc_mul1, show (256 : Int) = 2 ^ 8 by decide, h, ht]; rfl
  rw [h']
  exact Int.mul_le_mul_of_nonneg_right hj (Int.le_of_lt (sc_one_pos _))
theorem fin_fit {m x k : Int} (hx : -1074 ≤ x) (hk : k ≤ 256) (h1 : sc m x ≤ k * sc 1 1024) (h2 : -(k * sc 1 1024) ≤ sc m x) : (fin m x).e = 0 := by
  obtain ⟨t, ht⟩ : ∃ t : Int, t = 1032 := ⟨_, rfl⟩
  have hl := fit_lim hk ht
  by_cases h0 : m = 0
  · subst h0; rw [fin_zero]
  · obtain ⟨o, o1, o2⟩ := tz_spec h0
    rw [fin_of o1 o2]
    have e := sc_shift o x (tz m) (by omega)
    rw [← o1] at e
    rw [e] at h1 h2
    have hi := inb_fit (o := o) (x := x + tz m) ht (odd_ne o2) (by omega) (by omega) (by omega)
    rw [if_pos hi]
theorem add_fit {a b : Dy} {j k : Int} (ha : Fit a j) (hb : Fit b k) (hk : j + k ≤ 256) : (DC.Add a b).e = 0 ∧ Fit (DC.Add a b).d (j + k) ∧ S (DC.Add a b).d = S a + S b := by
  have he : ee a.er b.er = 0 := ee0.2 ⟨ha.ok.1, hb.ok.1⟩
  have x1 := ha.x
  have x2 := hb.x
  have h1 := ha.hi
  have h2 := ha.lo
  have h3 := hb.hi
  have h4 := hb.lo
  have e1 : sc (lv2 a b + lv2 b a) (min a.x b.x) = S a + S b := by
    rw [sc_add, sc_lv2 a b (by omega)]
    have := sc_lv2 b a (by omega)
    rw [Int.min_comm b.x a.x] at this
    rw [this]; rfl
  have e2 : (j + k) * sc 1 1024 = j * sc 1 1024 + k * sc 1 1024 := Int.add_mul _ _ _
  have e0 : (DC.Add a b).e = 0 := by
    unfold DC.Add
    rw [if_neg (by simpa using he)]
    unfold sum
    exact fin_fit (k := j + k) (by omega) hk (by rw [e1, e2]; omega) (by rw [e1, e2]; omega)
  have hS := (add_ok e0 (fun _ => ha.ok) (fun _ => hb.ok)).2.2
  refine ⟨e0, ⟨add_good a b, ?_, by rw [hS, e2]; omega, by rw [hS, e2]; omega⟩, hS⟩
  unfold DC.Add at e0 ⊢
  rw [if_neg (by simpa using he)] at e0 ⊢
  unfold sum at e0 ⊢
  exact fin_x' e0 (by omega)
theorem fit_zero : Fit dz 0 := by
  have e : S dz = 0 := sc_zero.2 rfl
  refine ⟨ok_dz, by decide, ?_, ?_⟩ <;> rw [e] <;> omega
/-- finite -/
def fi (x : Int) : Prop := 0 ≤ x ∧ x ≤ 18446744073709551615 ∧ F.exq x ≠ 2047
/-- the value -/
def val (x : Int) : Int := S (OfD x).d
theorem U_max {M : Int} (hM : M = 9218868437227405311) : U M ≤ sc 1 1024 := by
  obtain ⟨k, hk⟩ : ∃ k : Nat, k = 2045 := ⟨_, rfl⟩
  obtain ⟨u, hu⟩ : ∃ u : Int, u = (k : Int) - 1074 := ⟨_, rfl⟩
  have hU := (U_of (k := k) (q := 9007199254740991) (by omega) (by omega) (by omega))
  rw [← hu, show (k : Int) * 4503599627370496 + 9007199254740991 = M by omega] at hU
  have hp := sc_one_pos u
  have e : sc 1 1024 = 9007199254740992 * sc 1 u := by
    have := sc_shift 1 u 53 (by omega)
    rw [show u + ((53 : Nat) : Int) = 1024 by omega, show (1 : Int) * 2 ^ 53 = 9007199254740992 by decide, sc_mul1] at this
    exact this.symm
  rw [hU.1, e]
  omega
theorem val_eq {x : Int} (h : fi x) : val x = sgm (F.sgn x) (U (x % 9223372036854775808)) := (of_p h.1 h.2.1 h.2.2).2.2.1
theorem of_fit {x : Int} (h : fi x) : (OfD x).e = 0 ∧ Fit (OfD x).d 1 := by
  obtain ⟨h1, h2, h3, h4⟩ := of_p h.1 h.2.1 h.2.2
  have u0 := U_pos (r := x % 9223372036854775808) (by omega)
  have u1 := U_le (r := x % 9223372036854775808) (s := 9218868437227405311) (by omega) h4
  have u2 := Int.le_trans u1 (U_max rfl)
  refine ⟨h1, h2, ?_, ?_, ?_⟩
  · unfold OfD at h1 ⊢
    rw [if_neg h.2.2] at h1 ⊢
    exact fin_x' h1 (by unfold F.ulp; split <;> omega)
  · rw [h3]; unfold sgm; split <;> omega
  · rw [h3]; unfold sgm; split <;> omega
/-- the sum of a list, by Dyads and by values -/
def tot : List Int → Dy → Dy
  | [], d => d
  | x :: t, d => tot t (DC.Add d (OfD x).d).d
def vs : List Int → Int
  | [] => 0
  | x :: t => val x + vs t
theorem vs_append (a b : List Int) : vs (a ++ b) = vs a + vs b := by
  induction a with
  | nil => simp [vs]
  | cons x t ih => simp [vs, ih]; omega
theorem vs_reverse (a : List Int) : vs a.reverse = vs a := by
  induction a with
  | nil => rfl
  | cons x t ih => rw [List.reverse_cons, vs_append, ih]; simp [vs]; omega
theorem tot_fit : ∀ (L : List Int) (d : Dy) (k : Int), (∀ x ∈ L, fi x) → Fit d k → k + L.length ≤ 256 → Fit (tot L d) (k + L.length) ∧ S (tot L d) = S d + vs L := by
  intro L
  induction L with
  | nil => intro d k _ h _; refine ⟨by simpa [tot] using h, by simp [tot, vs]⟩
  | cons x t ih =>
    intro d k hL h hk
    rw [List.length_cons] at hk
    have hx := of_fit (hL x (by simp))
    obtain ⟨-, a2, a3⟩ := add_fit h hx.2 (by omega)
    obtain ⟨b1, b2⟩ := ih (DC.Add d (OfD x).d).d (k + 1) (fun y hy => hL y (by simp [hy])) a2 (by omega)
    refine ⟨?_, ?_⟩
    · rw [List.length_cons, show k + ((t.length + 1 : Nat) : Int) = k + 1 + t.length by omega]; exact b1
    · show S (tot t (DC.Add d (OfD x).d).d) = S d + (val x + vs t)
      rw [b2, a3]
      unfold val
      omega
/-- what has no value -/
def wv : List Int → Int → Bool → Int × Bool
  | [], s, f => (s, f)
  | x :: t, s, f => if F.cls x = 5 then (9221120237041090560, true) else if F.cls x = 4 then (if f = true ∧ x ≠ s then (9221120237041090560, true) else wv t x true) else wv t s f
def hN (L : List Int) : Bool := L.any fun x => F.cls x == 5
def hP (L : List Int) : Bool := L.any fun x => x == 9218868437227405312
def hM (L : List Int) : Bool := L.any fun x => x == 18442240474082181120
def WV (n p m : Bool) : Int × Bool := if n || (p && m) then (9221120237041090560, true) else if p then (9218868437227405312, true) else if m then (18442240474082181120, true) else (0, false)
theorem cls_inf {x : Int} (h0 : 0 ≤ x) (h1 : x ≤ 18446744073709551615) : F.cls x = 4 ↔ x = 9218868437227405312 ∨ x = 18442240474082181120 := by
  unfold F.cls F.exq F.fra
  constructor
  · intro h; repeat (first | omega | split at h)
  · rintro (rfl | rfl) <;> decide
theorem cls_fi {x : Int} : F.cls x ≠ 5 ∧ F.cls x ≠ 4 ↔ F.exq x ≠ 2047 := by
  have := F.exq_bd x
  unfold F.cls
  constructor
  · rintro ⟨h1, h2⟩ h
    rw [if_neg (by omega), if_neg (by omega)] at h1 h2
    by_cases h3 : F.fra x = 0
    · rw [if_pos h3] at h2; exact h2 rfl
    · rw [if_neg h3] at h1; exact h1 rfl
  · intro h
    by_cases h0 : F.exq x = 0
    · rw [if_pos h0]; split <;> omega
    · rw [if_neg h0, if_pos (by omega)]; omega
theorem wv_spec : ∀ (L : List Int) (s : Int) (f : Bool), (∀ x ∈ L, 0 ≤ x ∧ x ≤ 18446744073709551615) → ((f = false ∧ s = 0) ∨ (f = true ∧ (s = 9218868437227405312 ∨ s = 18442240474082181120))) →
    wv L s f = WV (hN L) (hP L || (s == 9218868437227405312)) (hM L || (s == 18442240474082181120)) := by
  intro L
  induction L with
  | nil =>
    intro s f _ h
    rcases h with ⟨rfl, rfl⟩ | ⟨rfl, rfl | rfl⟩ <;> simp [wv, WV, hN, hP, hM]
  | cons x t ih =>
    intro s f hL h
    have hx := hL x (by simp)
    have ht : ∀ y ∈ t, 0 ≤ y ∧ y ≤ 18446744073709551615 := fun y hy => hL y (by simp [hy])
    have ci := cls_inf hx.1 hx.2
    unfold wv
    by_cases h5 : F.cls x = 5
    · rw [if_pos h5]
      have : hN (x :: t) = true := by simp [hN, h5]
      rw [this]; simp [WV]
    · rw [if_neg h5]
      have e1 : hN (x :: t) = hN t := by simp [hN, h5]
      rw [e1]
      by_cases h4 : F.cls x = 4
      · rw [if_pos h4]
        rcases ci.1 h4 with rfl | rfl
        · have e2 : hP (9218868437227405312 :: t) = true := by simp [hP]
          have e3 : hM (9218868437227405312 :: t) = hM t := by simp [hM]
          rw [e2, e3]
          rcases h with ⟨rfl, rfl⟩ | ⟨rfl, rfl | rfl⟩
          · rw [if_neg (by simp), ih _ _ ht (.inr ⟨rfl, .inl rfl⟩)]; simp
          · rw [if_neg (by simp), ih _ _ ht (.inr ⟨rfl, .inl rfl⟩)]; simp
          · rw [if_pos (by simp)]; simp [WV]
        · have e2 : hP (18442240474082181120 :: t) = hP t := by simp [hP]
          have e3 : hM (18442240474082181120 :: t) = true := by simp [hM]
          rw [e2, e3]
          rcases h with ⟨rfl, rfl⟩ | ⟨rfl, rfl | rfl⟩
          · rw [if_neg (by simp), ih _ _ ht (.inr ⟨rfl, .inr rfl⟩)]; simp
          · rw [if_pos (by simp)]; simp [WV]
          · rw [if_neg (by simp), ih _ _ ht (.inr ⟨rfl, .inr rfl⟩)]; simp
      · rw [if_neg h4]
        have e2 : hP (x :: t) = hP t := by
          have : x ≠ 9218868437227405312 := fun h => h4 (ci.2 (.inl h))
          simp [hP, this]
        have e3 : hM (x :: t) = hM t := by
          have : x ≠ 18442240474082181120 := fun h => h4 (ci.2 (.inr h))
          simp [hM, this]
        rw [e2, e3]
        exact ih _ _ ht h
def u64s (L : List Int) : Prop := ∀ x ∈ L, 0 ≤ x ∧ x ≤ 18446744073709551615
theorem wv_eq {L : List Int} (h : u64s L) : wv L 0 false = WV (hN L) (hP L) (hM L) := by
  have := wv_spec L 0 false h (.inl ⟨rfl, rfl⟩)
  simpa using this
theorem wv_fin {L : List Int} (h : u64s L) : (wv L 0 false).2 = false ↔ ∀ x ∈ L, fi x := by
  rw [wv_eq h]
  have e : (WV (hN L) (hP L) (hM L)).2 = false ↔ hN L = false ∧ hP L = false ∧ hM L = false := by
    unfold WV; cases hN L <;> cases hP L <;> cases hM L <;> simp
  rw [e]
  unfold hN hP hM
  rw [List.any_eq_false, List.any_eq_false, List.any_eq_false]
  constructor
  · rintro ⟨h1, h2, h3⟩ x hx
    have hb := h x hx
    refine ⟨hb.1, hb.2, cls_fi.1 ⟨by simpa using h1 x hx, fun h4 => ?_⟩⟩
    rcases (cls_inf hb.1 hb.2).1 h4 with h5 | h5
    · exact h2 x hx (by simpa using h5)
    · exact h3 x hx (by simpa using h5)
  · intro hf
    refine ⟨fun x hx => ?_, fun x hx => ?_, fun x hx => ?_⟩
    · have := cls_fi.2 (hf x hx).2.2; simpa using this.1
    · have hb := h x hx
      have := cls_fi.2 (hf x hx).2.2
      intro h5
      exact this.2 ((cls_inf hb.1 hb.2).2 (.inl (by simpa using h5)))
    · have hb := h x hx
      have := cls_fi.2 (hf x hx).2.2
      intro h5
      exact this.2 ((cls_inf hb.1 hb.2).2 (.inr (by simpa using h5)))
/-- zeros -/
def sm (L : List Int) : Bool := L.all fun x => x == L.headD 0
def ZR (L : List Int) (mode : Int) : Int := if L = [] then 0 else if sm L = true then L.headD 0 else if mode = 2 then 9223372036854775808 else 0
/-- what All tells -/
noncomputable def AT (L : List Int) (mode : Int) : Int × Bool × Int :=
  if ¬ (0 ≤ mode ∧ mode ≤ 4) then (0, false, 1)
  else if 200 < L.length then (0, false, 2)
  else if (wv L 0 false).2 = true then ((wv L 0 false).1, false, 0)
  else if (tot L dz).m = 0 then (ZR L mode, false, 0)
  else (TX (tot L dz) mode, TL (tot L dz) mode, 0)
theorem tot_ok {L : List Int} (h : ∀ x ∈ L, fi x) (hl : ¬ 200 < L.length) : Ok (tot L dz) ∧ S (tot L dz) = vs L := by
  have := tot_fit L dz 0 h fit_zero (by omega)
  refine ⟨this.1.ok, ?_⟩
  rw [this.2, show S dz = 0 from sc_zero.2 rfl]; omega
theorem S_m {d : Dy} : d.m = 0 ↔ S d = 0 := sc_zero.symm
end SC
end Go.Proofs.YtpmjeipdldnnbaaDoor

/-
  Package sum, pure: what the laws ask.
-/
namespace Go.Proofs.YtpmjeipdldnnbaaDoor
set_option linter.unusedVariables false
set_option linter.unusedSimpArgs false
open Go.RowKit
set_option linter.unusedVariables false
set_option linter.unusedSimpArgs false
namespace SC
open L NC NK DC RC
theorem AT_congr {L L' : List Int} {mode : Int} (h : u64s L) (h' : u64s L') (hl : L.length = L'.length) (hn : hN L = hN L') (hp : hP L = hP L') (hm : hM L = hM L') (hv : vs L = vs L') (hz : ZR L mode = ZR L' mode) : AT L mode = AT L' mode := by
  have e : wv L 0 false = wv L' 0 false := by rw [wv_eq h, wv_eq h', hn, hp, hm]
  unfold AT
  rw [e, ← hl, hz]
  by_cases h1 : 200 < L.length
  · rw [if_pos h1, if_pos h1]
  · rw [if_neg h1, if_neg h1]
    by_cases h2 : (wv L' 0 false).2 = true
    · rw [if_pos h2, if_pos h2]
    · rw [if_neg h2, if_neg h2]
      have f' := (wv_fin h').1 (by simpa using h2)
      have f := (wv_fin h).1 (by rw [e]; simpa using h2)
      have a := tot_ok f h1
      have b := tot_ok f' (by omega)
      have : tot L dz = tot L' dz := S_inj a.1 b.1 (by rw [a.2, b.2, hv])
      rw [this]
theorem sm_iff {L : List Int} : sm L = true ↔ ∃ c, ∀ x ∈ L, x = c := by
  unfold sm
  rw [List.all_eq_true]
  constructor
  · intro h; exact ⟨L.headD 0, fun x hx => by simpa using h x hx⟩
  · rintro ⟨c, h⟩ x hx
    cases L with
    | nil => cases hx
    | cons y t => simp; rw [h x hx, h y (by simp)]
theorem head_mem {L : List Int} (h : L ≠ []) : L.headD 0 ∈ L := by
  cases L with
  | nil => exact absurd rfl h
  | cons y t => simp
theorem ZR_rev (L : List Int) (mode : Int) : ZR L.reverse mode = ZR L mode := by
  unfold ZR
  by_cases h0 : L = []
  · subst h0; rfl
  · rw [if_neg h0, if_neg (by simpa using h0)]
    have e : sm L.reverse = sm L := by
      rw [Bool.eq_iff_iff, sm_iff, sm_iff]
      constructor
      · rintro ⟨c, h⟩; exact ⟨c, fun x hx => h x (by simpa using hx)⟩
      · rintro ⟨c, h⟩; exact ⟨c, fun x hx => h x (by simpa using hx)⟩
    rw [e]
    by_cases h1 : sm L = true
    · rw [if_pos h1, if_pos h1]
      obtain ⟨c, h⟩ := sm_iff.1 h1
      rw [h _ (head_mem h0), h (L.reverse.headD 0) (by have := head_mem (L := L.reverse) (by simpa using h0); simpa using this)]
    · rw [if_neg h1, if_neg h1]
theorem u64s_rev {L : List Int} (h : u64s L) : u64s L.reverse := fun x hx => h x (by simpa using hx)
theorem AT_rev {L : List Int} (mode : Int) (h : u64s L) : AT L.reverse mode = AT L mode :=
  AT_congr (u64s_rev h) h (by simp) (by unfold hN; simp) (by unfold hP; simp) (by unfold hM; simp) (vs_reverse L) (ZR_rev L mode)
theorem AT_comm {x y mode : Int} (hx : 0 ≤ x ∧ x ≤ 18446744073709551615) (hy : 0 ≤ y ∧ y ≤ 18446744073709551615) : AT [x, y] mode = AT [y, x] mode :=
  AT_rev (L := [y, x]) mode (by intro z hz; simp at hz; rcases hz with rfl | rfl <;> assumption)
/-- values -/
theorem fi_mod {x : Int} (h : fi x) : x % 9223372036854775808 ≤ 9218868437227405311 := (of_p h.1 h.2.1 h.2.2).2.2.2
theorem fi_of {x : Int} (h0 : 0 ≤ x) (h1 : x ≤ 18446744073709551615) (h : x % 9223372036854775808 ≤ 9218868437227405311) : fi x := ⟨h0, h1, by unfold F.exq; omega⟩
theorem fi_neg {x : Int} (h : fi x) : fi (F.neg x) := by
  have := F.neg_bd x h.1 h.2.1
  exact ⟨this.1, this.2, by rw [F.exq_neg]; exact h.2.2⟩
theorem val_neg {x : Int} (h : fi x) : val (F.neg x) = -val x := by
  rw [val_eq (fi_neg h), val_eq h, F.sgn_neg x h.1 h.2.1]
  have e : F.neg x % 9223372036854775808 = x % 9223372036854775808 := F.abs_neg x
  rw [e]
  unfold sgm
  cases F.sgn x <;> simp
theorem val_rnk {x : Int} (h : fi x) : (0 ≤ F.rnk x → val x = U (F.rnk x)) ∧ (F.rnk x < 0 → val x = -U (-F.rnk x)) := by
  rw [val_eq h]
  have h0 := h.1
  have h1 := h.2.1
  have hs := F.sgn_iff x
  have hs' := F.sgn_iff' x
  cases hc : F.sgn x
  · have h2 := hs'.1 hc
    have e : F.rnk x = x := by unfold F.rnk; rw [if_pos h2]
    rw [e]
    refine ⟨fun _ => ?_, fun h => by omega⟩
    unfold sgm
    rw [show x % 9223372036854775808 = x by omega]; simp
  · have h2 := hs.1 hc
    have e : F.rnk x = 9223372036854775808 - x := by unfold F.rnk; rw [if_neg (by omega)]
    rw [e]
    unfold sgm
    refine ⟨fun h3 => ?_, fun h3 => ?_⟩
    · rw [show x % 9223372036854775808 = 0 by omega, show 9223372036854775808 - x = 0 by omega, U_zero]; simp
    · rw [show x % 9223372036854775808 = -(9223372036854775808 - x) by omega]; simp
theorem val_le {x y : Int} (hx : fi x) (hy : fi y) (h : F.rnk x ≤ F.rnk y) : val x ≤ val y := by
  have a := val_rnk hx
  have b := val_rnk hy
  rcases Int.lt_or_le (F.rnk x) 0 with h1 | h1
  · rw [a.2 h1]
    have p1 := U_pos (r := -F.rnk x) (by omega)
    rcases Int.lt_or_le (F.rnk y) 0 with h2 | h2
    · rw [b.2 h2]
      have := U_le (r := -F.rnk y) (s := -F.rnk x) (by omega) (by omega)
      omega
    · rw [b.1 h2]
      have := U_pos h2
      omega
  · rw [a.1 h1, b.1 (by omega)]
    exact U_le h1 h
theorem val_pos {x : Int} (hx : fi x) (h : 0 ≤ F.rnk x) : 0 ≤ val x := by rw [(val_rnk hx).1 h]; exact U_pos h
theorem val_zero {x : Int} (hx : fi x) (h : val x = 0) : x = 0 ∨ x = 9223372036854775808 := by
  have h0 := hx.1
  have h1 := hx.2.1
  rw [val_eq hx] at h
  have hu : U (x % 9223372036854775808) = 0 := by
    unfold sgm at h
    split at h <;> omega
  have h2 : ¬ 0 < x % 9223372036854775808 := fun h3 => by
    have := U_lt (r := 0) (by omega) h3
    rw [U_zero] at this
    omega
  omega
theorem vs_const {L : List Int} {c : Int} (h : ∀ x ∈ L, x = c) : vs L = L.length * val c := by
  induction L with
  | nil => simp [vs]
  | cons x t ih =>
    have := h x (by simp)
    subst this
    rw [vs, ih fun y hy => h y (by simp [hy]), List.length_cons]
    have e : ((t.length + 1 : Nat) : Int) = t.length + 1 := by omega
    rw [e, Int.add_mul]; omega
theorem ZR_zero {L : List Int} (mode : Int) (hf : ∀ x ∈ L, fi x) (h : vs L = 0) : ZR L mode = 0 ∨ ZR L mode = 9223372036854775808 := by
  unfold ZR
  by_cases h0 : L = []
  · rw [if_pos h0]; exact .inl rfl
  · rw [if_neg h0]
    by_cases h1 : sm L = true
    · rw [if_pos h1]
      obtain ⟨c, hc⟩ := sm_iff.1 h1
      have hm := head_mem h0
      rw [hc _ hm]
      rw [vs_const hc] at h
      have hfc : fi c := by have := hf _ hm; rwa [hc _ hm] at this
      rcases Int.mul_eq_zero.1 h with h2 | h2
      · have : L.length = 0 := by omega
        exact absurd (List.length_eq_zero_iff.1 this) h0
      · exact val_zero hfc h2
    · rw [if_neg h1]; split <;> simp
theorem ZR_cls {L : List Int} (mode : Int) (hf : ∀ x ∈ L, fi x) (h : vs L = 0) : F.cls (ZR L mode) = 1 ∧ F.rnk (ZR L mode) = 0 := by
  rcases ZR_zero mode hf h with e | e <;> rw [e] <;> decide
/-- the finite case -/
theorem AT_fin {L : List Int} {mode : Int} (hm : 0 ≤ mode ∧ mode ≤ 4) (hl : ¬ 200 < L.length) (hf : ∀ x ∈ L, fi x) :
    (vs L = 0 → AT L mode = (ZR L mode, false, 0)) ∧ (vs L ≠ 0 → AT L mode = (TX (tot L dz) mode, TL (tot L dz) mode, 0)) := by
  have hu : u64s L := fun x hx => ⟨(hf x hx).1, (hf x hx).2.1⟩
  have h2 := (wv_fin hu).2 hf
  have t := tot_ok hf hl
  unfold AT
  rw [if_neg (by simpa using hm), if_neg hl, if_neg (by rw [h2]; simp)]
  constructor
  · intro h; rw [if_pos (by rw [S_m, t.2]; exact h)]
  · intro h; rw [if_neg (by rw [S_m, t.2]; exact h)]
theorem TX_zero {d : Dy} {mode : Int} (hm : 0 ≤ mode ∧ mode ≤ 4) (h : Ok d) (h0 : S d = 0) : F.rnk (TX d mode) = 0 := by
  have a := (A_abs d).1 (by omega)
  have t : Tow (A d) 0 false false := by rw [a.1, h0]; exact tow_zero
  rw [(TX_of h hm t).1, ry_none, a.2]
  decide
theorem AT_rnk {L : List Int} {mode : Int} (hm : 0 ≤ mode ∧ mode ≤ 4) (hl : ¬ 200 < L.length) (hf : ∀ x ∈ L, fi x) : F.rnk (AT L mode).1 = F.rnk (TX (tot L dz) mode) ∧ (AT L mode).2.2 = 0 := by
  have a := AT_fin hm hl hf
  have t := tot_ok hf hl
  by_cases h : vs L = 0
  · rw [a.1 h]
    exact ⟨by rw [(ZR_cls mode hf h).2, TX_zero hm t.1 (by rw [t.2]; exact h)], rfl⟩
  · rw [a.2 h]; exact ⟨rfl, rfl⟩
/-- two numbers -/
theorem u2 {x y : Int} (hx : 0 ≤ x ∧ x ≤ 18446744073709551615) (hy : 0 ≤ y ∧ y ≤ 18446744073709551615) : u64s [x, y] := by
  intro z hz; simp at hz; rcases hz with rfl | rfl <;> assumption
theorem f2 {x y : Int} (hx : fi x) (hy : fi y) : ∀ z ∈ [x, y], fi z := by
  intro z hz; simp at hz; rcases hz with rfl | rfl <;> assumption
theorem AT_wv {L : List Int} {mode : Int} (hm : 0 ≤ mode ∧ mode ≤ 4) (hl : ¬ 200 < L.length) (hu : u64s L) (h : ¬ ∀ x ∈ L, fi x) : AT L mode = ((WV (hN L) (hP L) (hM L)).1, false, 0) := by
  have h2 : (wv L 0 false).2 = true := by
    rcases Bool.eq_false_or_eq_true (wv L 0 false).2 with h3 | h3
    · exact h3
    · exact absurd ((wv_fin hu).1 h3) h
  unfold AT
  rw [if_neg (by simpa using hm), if_neg hl, if_pos h2, wv_eq hu]
theorem AT_no {L : List Int} {mode : Int} (hm : ¬ (0 ≤ mode ∧ mode ≤ 4)) : AT L mode = (0, false, 1) := by unfold AT; rw [if_pos hm]
theorem AT_large {L : List Int} {mode : Int} (hm : 0 ≤ mode ∧ mode ≤ 4) (hl : 200 < L.length) : AT L mode = (0, false, 2) := by unfold AT; rw [if_neg (by simpa using hm), if_pos hl]
theorem AT_bd {L : List Int} (mode : Int) (hu : u64s L) : 0 ≤ (AT L mode).1 ∧ (AT L mode).1 ≤ 18446744073709551615 := by
  by_cases hm : 0 ≤ mode ∧ mode ≤ 4
  · by_cases hl : 200 < L.length
    · rw [AT_large hm hl]; exact ⟨by simp, by simp⟩
    · by_cases hf : ∀ x ∈ L, fi x
      · have a := AT_fin hm hl hf
        have t := tot_ok hf hl
        by_cases h : vs L = 0
        · rw [a.1 h]; rcases ZR_zero mode hf h with e | e <;> rw [e] <;> simp
        · rw [a.2 h]
          have := TX_bd (tot L dz) mode fun _ => t.1
          exact ⟨this.1, this.2.1⟩
      · rw [AT_wv hm hl hu hf]
        unfold WV
        cases hN L <;> cases hP L <;> cases hM L <;> simp
  · rw [AT_no hm]; exact ⟨by simp, by simp⟩
theorem AT_e {L : List Int} {mode : Int} (hl : ¬ 200 < L.length) (hu : u64s L) : (AT L mode).2.2 = 0 ↔ (0 ≤ mode ∧ mode ≤ 4) := by
  by_cases hm : 0 ≤ mode ∧ mode ≤ 4
  · refine ⟨fun _ => hm, fun _ => ?_⟩
    by_cases hf : ∀ x ∈ L, fi x
    · exact (AT_rnk hm hl hf).2
    · rw [AT_wv hm hl hu hf]
  · refine ⟨fun h => ?_, fun h => absurd h hm⟩
    rw [AT_no hm] at h; cases h
end SC
end Go.Proofs.YtpmjeipdldnnbaaDoor

/-
  Package sum, pure: turned; small ones; Sterbenz; in order; once.
-/
namespace Go.Proofs.YtpmjeipdldnnbaaDoor
set_option linter.unusedVariables false
set_option linter.unusedSimpArgs false
open Go.RowKit
set_option linter.unusedVariables false
set_option linter.unusedSimpArgs false
namespace SC
open L NC NK DC RC
theorem S_neg (d : Dy) : S (neg d) = -S d := sc_neg _ _
theorem WV_turn (n p m : Bool) : (F.cls (WV n p m).1 = 5 ∧ F.cls (WV n m p).1 = 5) ∨ (F.cls (WV n p m).1 = 1 ∧ F.cls (WV n m p).1 = 1) ∨ (WV n m p).1 = F.neg (WV n p m).1 := by
  cases n <;> cases p <;> cases m <;> decide
theorem neg_P {x : Int} (h0 : 0 ≤ x) (h1 : x ≤ 18446744073709551615) : (F.neg x == 9218868437227405312) = (x == 18442240474082181120) ∧ (F.neg x == 18442240474082181120) = (x == 9218868437227405312) := by
  constructor <;> rw [Bool.eq_iff_iff, beq_iff_eq, beq_iff_eq] <;> unfold F.neg <;> split <;> omega
theorem or2 (a b : Bool) : (a || (b || false)) = (b || (a || false)) := by cases a <;> cases b <;> rfl
theorem sub_turn {x y mode : Int} (hx : 0 ≤ x ∧ x ≤ 18446744073709551615) (hy : 0 ≤ y ∧ y ≤ 18446744073709551615) (hm : 0 ≤ mode ∧ mode ≤ 4) :
    (F.cls (AT [x, F.neg y] mode).1 = 5 ∧ F.cls (AT [y, F.neg x] (tm mode)).1 = 5) ∨ (F.cls (AT [x, F.neg y] mode).1 = 1 ∧ F.cls (AT [y, F.neg x] (tm mode)).1 = 1) ∨ (AT [y, F.neg x] (tm mode)).1 = F.neg (AT [x, F.neg y] mode).1 := by
  have hm' : 0 ≤ tm mode ∧ tm mode ≤ 4 := by unfold tm; split; omega; split <;> omega
  have nx := F.neg_bd x hx.1 hx.2
  have ny := F.neg_bd y hy.1 hy.2
  have l1 : ¬ 200 < [x, F.neg y].length := by simp
  have l2 : ¬ 200 < [y, F.neg x].length := by simp
  by_cases hf : fi x ∧ fi y
  · obtain ⟨fx, fy⟩ := hf
    have f1 := f2 fx (fi_neg fy)
    have f2' := f2 fy (fi_neg fx)
    have a := AT_fin hm l1 f1
    have b := AT_fin hm' l2 f2'
    have v1 : vs [x, F.neg y] = val x - val y := by simp [vs, val_neg fy]; omega
    have v2 : vs [y, F.neg x] = val y - val x := by simp [vs, val_neg fx]; omega
    by_cases h0 : vs [x, F.neg y] = 0
    · right; left
      have h0' : vs [y, F.neg x] = 0 := by omega
      rw [a.1 h0, b.1 h0']
      exact ⟨(ZR_cls mode f1 h0).1, (ZR_cls _ f2' h0').1⟩
    · right; right
      have h0' : vs [y, F.neg x] ≠ 0 := by omega
      rw [a.2 h0, b.2 h0']
      have t1 := tot_ok f1 l1
      have t2 := tot_ok f2' l2
      have hne : (tot [x, F.neg y] dz).m ≠ 0 := fun h => h0 (by rw [← t1.2]; exact S_m.1 h)
      have tp := turned_p t1.1 hne hm
      have e : tot [y, F.neg x] dz = neg (tot [x, F.neg y] dz) := S_inj t2.1 tp.1 (by rw [S_neg, t1.2, t2.2, v1, v2]; omega)
      rw [e]
      exact tp.2.2.1
  · have h1 : ¬ ∀ z ∈ [x, F.neg y], fi z := fun h => hf ⟨h x (by simp), by
      have := fi_neg (h (F.neg y) (by simp)); rwa [F.neg_neg y hy.1 hy.2] at this⟩
    have h2 : ¬ ∀ z ∈ [y, F.neg x], fi z := fun h => hf ⟨by
      have := fi_neg (h (F.neg x) (by simp)); rwa [F.neg_neg x hx.1 hx.2] at this, h y (by simp)⟩
    rw [AT_wv hm l1 (u2 hx ny) h1, AT_wv hm' l2 (u2 hy nx) h2]
    have e1 : hN [y, F.neg x] = hN [x, F.neg y] := by simp [hN, F.cls_neg, Bool.or_comm]
    have e2 : hP [y, F.neg x] = hM [x, F.neg y] := by simp only [hP, hM, List.any_cons, List.any_nil, (neg_P hx.1 hx.2).1, (neg_P hy.1 hy.2).2]; exact or2 _ _
    have e3 : hM [y, F.neg x] = hP [x, F.neg y] := by simp only [hP, hM, List.any_cons, List.any_nil, (neg_P hx.1 hx.2).2, (neg_P hy.1 hy.2).1]; exact or2 _ _
    rw [e1, e2, e3]
    exact WV_turn _ _ _
/-- in order -/
theorem AT2 {x z mode : Int} (hm : 0 ≤ mode ∧ mode ≤ 4) (hx : 0 ≤ x ∧ x ≤ 18446744073709551615) (hz : 0 ≤ z ∧ z ≤ 18446744073709551615) (hn : F.cls x ≠ 5) (ha : F.cls (AT [x, z] mode).1 ≠ 5) :
    (fi x ∧ fi z) ∨ ((AT [x, z] mode).1 = 9218868437227405312 ∧ (x = 9218868437227405312 ∨ (fi x ∧ z = 9218868437227405312))) ∨ ((AT [x, z] mode).1 = 18442240474082181120 ∧ (x = 18442240474082181120 ∨ (fi x ∧ z = 18442240474082181120))) := by
  by_cases hf : fi x ∧ fi z
  · exact .inl hf
  · right
    have h1 : ¬ ∀ y ∈ [x, z], fi y := fun h => hf ⟨h x (by simp), h z (by simp)⟩
    rw [AT_wv hm (by simp) (u2 hx hz) h1] at ha ⊢
    have c5 : F.cls (9221120237041090560 : Int) = 5 := by decide
    have hnz : F.cls z ≠ 5 := fun h => by
      have : hN [x, z] = true := by simp [hN, h]
      rw [this] at ha
      exact ha (by simp only [WV, Bool.true_or, if_true]; exact c5)
    have e0 : hN [x, z] = false := by simp [hN, hn, hnz]
    have kx : fi x ∨ x = 9218868437227405312 ∨ x = 18442240474082181120 := by
      by_cases h4 : F.cls x = 4
      · exact .inr ((cls_inf hx.1 hx.2).1 h4)
      · exact .inl ⟨hx.1, hx.2, cls_fi.1 ⟨hn, h4⟩⟩
    have kz : fi z ∨ z = 9218868437227405312 ∨ z = 18442240474082181120 := by
      by_cases h4 : F.cls z = 4
      · exact .inr ((cls_inf hz.1 hz.2).1 h4)
      · exact .inl ⟨hz.1, hz.2, cls_fi.1 ⟨hnz, h4⟩⟩
    have nfi : ∀ y, fi y → (y == 9218868437227405312) = false ∧ (y == 18442240474082181120) = false := fun y hy => by
      have := fi_mod hy
      constructor <;> rw [beq_eq_false_iff_ne] <;> rintro rfl <;> simp at this
    rw [e0] at ha ⊢
    rcases kx with fx | rfl | rfl
    · have ex := nfi x fx
      rcases kz with fz | rfl | rfl
      · exact absurd ⟨fx, fz⟩ hf
      · left
        have p : hP [x, 9218868437227405312] = true := by simp [hP]
        have q : hM [x, 9218868437227405312] = false := by simp only [hM, List.any_cons, List.any_nil, ex.2]; rfl
        rw [p, q]; exact ⟨rfl, .inr ⟨fx, rfl⟩⟩
      · right
        have p : hP [x, 18442240474082181120] = false := by simp only [hP, List.any_cons, List.any_nil, ex.1]; rfl
        have q : hM [x, 18442240474082181120] = true := by simp [hM]
        rw [p, q]; exact ⟨rfl, .inr ⟨fx, rfl⟩⟩
    · left
      have p : hP [9218868437227405312, z] = true := by simp [hP]
      rw [p] at ha ⊢
      cases hq : hM [9218868437227405312, z]
      · exact ⟨rfl, .inl rfl⟩
      · rw [hq] at ha; exact absurd c5 ha
    · right
      have p : hM [18442240474082181120, z] = true := by simp [hM]
      rw [p] at ha ⊢
      cases hq : hP [18442240474082181120, z]
      · exact ⟨rfl, .inl rfl⟩
      · rw [hq] at ha; exact absurd c5 ha
theorem cls_nn {x : Int} : F.cls x ≠ 5 ↔ F.nn x := by
  have := F.cls_nan x
  unfold F.nn
  constructor
  · intro h; rcases Int.lt_or_le 9218868437227405312 (x % 9223372036854775808) with h1 | h1
    · exact absurd (this.2 h1) h
    · exact h1
  · intro h h1; have := this.1 h1; omega
theorem rnk_lim {x : Int} (hx : 0 ≤ x ∧ x ≤ 18446744073709551615) (h : F.nn x) : -9218868437227405312 ≤ F.rnk x ∧ F.rnk x ≤ 9218868437227405312 := by
  unfold F.nn at h; unfold F.rnk; split <;> omega
theorem rnk_fi {x : Int} (h : fi x) : -9218868437227405311 ≤ F.rnk x ∧ F.rnk x ≤ 9218868437227405311 := by
  have h0 := h.1
  have h1 := h.2.1
  have := fi_mod h
  unfold F.rnk; split <;> omega
theorem rP : F.rnk 9218868437227405312 = 9218868437227405312 := by decide
theorem rM : F.rnk 18442240474082181120 = -9218868437227405312 := by decide
theorem order_sum {x y z mode : Int} (hm : 0 ≤ mode ∧ mode ≤ 4) (hx : 0 ≤ x ∧ x ≤ 18446744073709551615) (hy : 0 ≤ y ∧ y ≤ 18446744073709551615) (hz : 0 ≤ z ∧ z ≤ 18446744073709551615) (nx : F.nn x) (ny : F.nn y) (h : F.rnk x ≤ F.rnk y)
    (na : F.nn (AT [x, z] mode).1) (nb : F.nn (AT [y, z] mode).1) : F.rnk (AT [x, z] mode).1 ≤ F.rnk (AT [y, z] mode).1 := by
  have l1 := rnk_lim (AT_bd mode (u2 hx hz)) na
  have l2 := rnk_lim (AT_bd mode (u2 hy hz)) nb
  have z1 : ∀ a : Int, fi a → a ≠ 9218868437227405312 ∧ a ≠ 18442240474082181120 := fun a ha => by
    have := fi_mod ha
    constructor <;> rintro rfl <;> simp at this
  rcases AT2 hm hx hz (cls_nn.2 nx) (cls_nn.2 na) with ⟨fx, fz⟩ | ⟨ea, ka⟩ | ⟨ea, ka⟩
  · have rx' := rnk_fi fx
    rcases AT2 hm hy hz (cls_nn.2 ny) (cls_nn.2 nb) with ⟨fy, -⟩ | ⟨eb, kb⟩ | ⟨eb, kb⟩
    · rw [(AT_rnk hm (by simp) (f2 fx fz)).1, (AT_rnk hm (by simp) (f2 fy fz)).1]
      have t1 := tot_ok (f2 fx fz) (by simp)
      have t2 := tot_ok (f2 fy fz) (by simp)
      apply order_p t1.1 t2.1 hm
      rw [t1.2, t2.2]
      have := val_le fx fy h
      simp [vs]; omega
    · rw [eb, rP]; exact l1.2
    · rcases kb with rfl | ⟨-, rfl⟩
      · rw [rM] at h; omega
      · exact absurd rfl (z1 _ fz).2
  · rcases AT2 hm hy hz (cls_nn.2 ny) (cls_nn.2 nb) with ⟨fy, fz⟩ | ⟨eb, kb⟩ | ⟨eb, kb⟩
    · rcases ka with rfl | ⟨-, rfl⟩
      · have := rnk_fi fy; rw [rP] at h; omega
      · exact absurd rfl (z1 _ fz).1
    · rw [ea, eb]; exact Int.le_refl _
    · rcases ka with rfl | ⟨fx, rfl⟩
      · rcases kb with rfl | ⟨fy, rfl⟩
        · rw [rP, rM] at h; omega
        · have := rnk_fi fy; rw [rP] at h; omega
      · rcases kb with rfl | ⟨fy, hh⟩
        · have := rnk_fi fx; rw [rM] at h; omega
        · cases hh
  · rw [ea, rM]; exact l2.1
theorem order_up {x z mode : Int} (hm : 0 ≤ mode ∧ mode ≤ 4) (hx : 0 ≤ x ∧ x ≤ 18446744073709551615) (hz : 0 ≤ z ∧ z ≤ 18446744073709551615) (nx : F.nn x) (na : F.nn (AT [x, z] mode).1) (h : 0 ≤ F.rnk z) : F.rnk x ≤ F.rnk (AT [x, z] mode).1 := by
  have l1 := rnk_lim hx nx
  rcases AT2 hm hx hz (cls_nn.2 nx) (cls_nn.2 na) with ⟨fx, fz⟩ | ⟨ea, ka⟩ | ⟨ea, ka⟩
  · rw [(AT_rnk hm (by simp) (f2 fx fz)).1]
    have t1 := tot_ok (f2 fx fz) (by simp)
    have s := same_p fx.1 fx.2.1 fx.2.2 hm
    have e : F.rnk (TX (OfD x).d mode) = F.rnk x := by
      rcases s.2.2 with h1 | ⟨-, rfl, h2⟩
      · rw [eq_of_beq h1]
      · rw [h2]; decide
    rw [← e]
    apply order_p (of_p fx.1 fx.2.1 fx.2.2).2.1 t1.1 hm
    rw [t1.2]
    have := val_pos fz h
    simp only [vs]
    unfold val at *
    omega
  · rw [ea, rP]; exact l1.2
  · rcases ka with rfl | ⟨fx, rfl⟩
    · rw [ea]; exact Int.le_refl _
    · rw [rM] at h; omega
/-- small ones -/
theorem rx_small {b : Bool} {y : Int} (h0 : 0 ≤ y) (h1 : y ≤ 9218868437227405312) (h : F.cls (rx b y) ≤ 2) : y < 4503599627370496 := by
  have e : rx b y % 9223372036854775808 = y := by
    unfold rx F.neg
    cases b
    · simp; omega
    · simp; rw [if_pos (by omega)]; omega
  have hb := F.exq_bd (rx b y)
  have : F.exq (rx b y) = 0 := by
    unfold F.cls at h
    by_cases h2 : F.exq (rx b y) = 0
    · exact h2
    · rw [if_neg h2] at h
      split at h
      · omega
      · split at h <;> omega
  unfold F.exq at this
  rw [e] at this
  omega
theorem small_p {d : Dy} {mode : Int} (hm : 0 ≤ mode ∧ mode ≤ 4) (h : Ok d) (hx : -1074 ≤ d.x) (hc : F.cls (TX d mode) ≤ 2) : TL d mode = false := by
  obtain ⟨r, hf, m, t, -⟩ := towA h
  obtain ⟨e1, e2, -⟩ := TX_of h hm t
  have k := ry_bd (b := ng d) t mode
  rw [e1] at hc
  have hy := rx_small k.1 k.2.1 hc
  have hr : r < 4503599627370496 := by omega
  have hr0 := t.r0
  obtain ⟨u0, u1⟩ := U_of (k := 0) (q := r) hr0 (by omega) (.inl rfl)
  rw [show ((0 : Nat) : Int) * 4503599627370496 + r = r by omega, show ((0 : Nat) : Int) - 1074 = -1074 by omega] at u0 u1
  obtain ⟨j, hj⟩ : ∃ j : Nat, d.x + 1074 = j := ⟨(d.x + 1074).toNat, by omega⟩
  have eA : A d = ((d.m.natAbs : Int) * 2 ^ j) * sc 1 (-1074) := by
    unfold A
    rw [← sc_mul1, sc_shift _ _ _ (by omega)]
    congr 1; omega
  have l := t.lo
  have hi := t.hi (by omega)
  have hE := sc_one_pos (-1074)
  have th := t.hh
  have tmm := t.hm
  rw [e2]
  rw [u0, u1] at th tmm
  rw [u0] at l
  rw [u1] at hi
  rw [eA] at l hi th tmm
  generalize sc 1 (-1074) = E at *
  generalize (d.m.natAbs : Int) * 2 ^ j = N at *
  have a1 : r ≤ N := Int.le_of_mul_le_mul_right l hE
  have a2 : N < r + 1 := Int.lt_of_mul_lt_mul_right hi (Int.le_of_lt hE)
  obtain rfl : N = r := by omega
  have h1 : hf = false := by
    rw [th, decide_eq_false_iff_not, Int.add_mul, Int.one_mul]; omega
  have h2 : m = false := by
    rw [tmm, decide_eq_false_iff_not]; intro h; exact h.1 rfl
  rw [h1, h2]; rfl
theorem small_sum {x y mode : Int} (hm : 0 ≤ mode ∧ mode ≤ 4) (hx : 0 ≤ x ∧ x ≤ 18446744073709551615) (hy : 0 ≤ y ∧ y ≤ 18446744073709551615) (hc : F.cls (AT [x, y] mode).1 ≤ 2) : (AT [x, y] mode).2.1 = false := by
  by_cases hf : ∀ z ∈ [x, y], fi z
  · have a := AT_fin hm (by simp) hf
    by_cases h0 : vs [x, y] = 0
    · rw [a.1 h0]
    · rw [a.2 h0] at hc ⊢
      have t := tot_fit [x, y] dz 0 hf fit_zero (by simp)
      exact small_p hm t.1.ok t.1.x hc
  · rw [AT_wv hm (by simp) (u2 hx hy) hf]
/-- what has few bits is a number -/
theorem rep : ∀ (k : Nat) (q : Int), 0 ≤ q → q < 9007199254740992 → ∃ r, 0 ≤ r ∧ V r = q * 2 ^ k := by
  intro k
  induction k with
  | zero =>
    intro q h0 h1
    have := (V_of (k := 0) h0 h1 (.inl rfl)).1
    exact ⟨((0 : Nat) : Int) * 4503599627370496 + q, by omega, this⟩
  | succ k ih =>
    intro q h0 h1
    by_cases h2 : 4503599627370496 ≤ q
    · exact ⟨_, by omega, (V_of (k := k + 1) h0 h1 (.inr h2)).1⟩
    · obtain ⟨r, r0, hr⟩ := ih (2 * q) (by omega) (by omega)
      refine ⟨r, r0, ?_⟩
      rw [hr, Int.pow_succ, Int.mul_comm (2 ^ k) 2, ← Int.mul_assoc, Int.mul_comm q 2]
theorem exact_p {d : Dy} {mode r : Int} (hm : 0 ≤ mode ∧ mode ≤ 4) (h : Ok d) (r0 : 0 ≤ r) (r1 : r ≤ 9218868437227405311) (e : A d = U r) : TL d mode = false ∧ fi (TX d mode) ∧ val (TX d mode) = S d := by
  have t := tow_exact r0 r1
  rw [← e] at t
  obtain ⟨e1, e2, -⟩ := TX_of h hm t
  rw [ry_none] at e1
  have b := rx_bd (b := ng d) r0 (show r ≤ 9218868437227405312 by omega)
  have hmod : rx (ng d) r % 9223372036854775808 = r ∧ F.sgn (rx (ng d) r) = ng d := by
    unfold rx F.neg F.sgn
    cases ng d
    · simp; omega
    · simp; rw [if_pos (by omega)]; omega
  have hf : fi (TX d mode) := by
    rw [e1]
    exact fi_of b.1 b.2.1 (by rw [hmod.1]; omega)
  refine ⟨by rw [e2]; rfl, hf, ?_⟩
  rw [val_eq hf, e1, hmod.1, hmod.2, ← e]
  have a := A_abs d
  rcases Int.lt_or_le (S d) 0 with h1 | h1
  · rw [(a.2 h1).1, (a.2 h1).2]; unfold sgm; simp
  · rw [(a.1 h1).1, (a.1 h1).2]; unfold sgm; simp
/-- the unit of a number -/
theorem unit_ex {x : Int} (h : fi x) : ∃ (k : Nat) (q : Int), 0 ≤ q ∧ q < 9007199254740992 ∧ val x = sgm (F.sgn x) (q * sc 1 (k - 1074)) := by
  have h2 := fi_mod h
  obtain ⟨k, q, e, q0, q1, hc⟩ := r_parts (show 0 ≤ x % 9223372036854775808 by omega)
  refine ⟨k, q, q0, q1, ?_⟩
  rw [val_eq h, e, (U_of q0 q1 hc).1]
theorem rank_of {N a q M E : Int} {k : Nat} (hM : M = 9218868437227405311) (hE : E = sc 1 (k - 1074)) (ha : a = N * E) (hN : 0 ≤ N) (hq : N ≤ q) (q1 : q < 9007199254740992) (hU : a ≤ U M) : ∃ r, 0 ≤ r ∧ r ≤ M ∧ a = U r := by
  obtain ⟨r, r0, hr⟩ := rep k N hN (by omega)
  have e : U r = a := by
    unfold U
    rw [hr, ha, hE, sc_shift _ _ _ (by omega), sc_mul1, show -1074 + (k : Int) = k - 1074 by omega]
  refine ⟨r, r0, ?_, e.symm⟩
  rcases Int.lt_or_le M r with h | h
  · have := U_lt (r := M) (by omega) h
    omega
  · exact h
theorem ster_rank {x y : Int} (hx : fi x) (hy : fi y) (h : (0 ≤ val y ∧ val y ≤ 2 * val x ∧ val x ≤ 2 * val y) ∨ (val y ≤ 0 ∧ 2 * val y ≤ val x ∧ 2 * val x ≤ val y)) :
    ∃ r, 0 ≤ r ∧ r ≤ 9218868437227405311 ∧ ((0 ≤ val x - val y → val x - val y = U r) ∧ (val x - val y < 0 → -(val x - val y) = U r)) := by
  obtain ⟨M, hM⟩ : ∃ M : Int, M = 9218868437227405311 := ⟨_, rfl⟩
  have bx : val x ≤ U M ∧ -U M ≤ val x := by
    have := fi_mod hx
    have h1 := U_le (r := x % 9223372036854775808) (s := M) (by omega) (by omega)
    have h2 := U_pos (r := x % 9223372036854775808) (by omega)
    rw [val_eq hx]; unfold sgm; split <;> omega
  have by' : val y ≤ U M ∧ -U M ≤ val y := by
    have := fi_mod hy
    have h1 := U_le (r := y % 9223372036854775808) (s := M) (by omega) (by omega)
    have h2 := U_pos (r := y % 9223372036854775808) (by omega)
    rw [val_eq hy]; unfold sgm; split <;> omega
  obtain ⟨k, p, p0, p1, ex⟩ := unit_ex hx
  obtain ⟨j, q, q0, q1, ey⟩ := unit_ex hy
  -- signed digits over the lesser unit
  have key : ∀ (i : Nat) (E : Int), E = sc 1 (i - 1074) → (∃ X Y n : Int, val x = X * E ∧ val y = Y * E ∧ n < 9007199254740992 ∧ 0 ≤ n ∧ ((val x = n * E ∨ val x = -(n * E)) ∨ (val y = n * E ∨ val y = -(n * E)))) → ∃ r, 0 ≤ r ∧ r ≤ M ∧ ((0 ≤ val x - val y → val x - val y = U r) ∧ (val x - val y < 0 → -(val x - val y) = U r)) := by
    rintro i E hE ⟨X, Y, n, hX, hY, hn, hn0, hk⟩
    have hp : 0 < E := by rw [hE]; exact sc_one_pos _
    rw [hX] at bx
    rw [hY] at by'
    rw [hX, hY] at h hk
    rw [hX, hY, ← Int.sub_mul]
    have c : ∀ a b : Int, a * E ≤ b * E ↔ a ≤ b := fun a b => ⟨fun h => Int.le_of_mul_le_mul_right h hp, fun h => Int.mul_le_mul_of_nonneg_right h (Int.le_of_lt hp)⟩
    have c0 : ∀ a : Int, 0 ≤ a * E ↔ 0 ≤ a := fun a => by have := c 0 a; rwa [Int.zero_mul] at this
    have c1 : ∀ a : Int, a * E ≤ 0 ↔ a ≤ 0 := fun a => by have := c a 0; rwa [Int.zero_mul] at this
    have ce : ∀ a b : Int, a * E = b * E ↔ a = b := fun a b => ⟨fun h => Int.eq_of_mul_eq_mul_right (Int.ne_of_gt hp) h, fun h => by rw [h]⟩
    have hXY : (0 ≤ Y ∧ Y ≤ 2 * X ∧ X ≤ 2 * Y) ∨ (Y ≤ 0 ∧ 2 * Y ≤ X ∧ 2 * X ≤ Y) := by
      rw [← Int.mul_assoc, ← Int.mul_assoc, c, c, c0, c, c, c1] at h
      exact h
    have hK : (X = n ∨ X = -n) ∨ (Y = n ∨ Y = -n) := by
      rw [← Int.neg_mul, ce, ce, ce, ce] at hk
      exact hk
    clear c c0 c1 ce h hk hX hY ex ey
    have b0 : (X - Y) * E = X * E - Y * E := Int.sub_mul _ _ _
    have hb : (X - Y) * E ≤ U M ∧ -((X - Y) * E) ≤ U M := by
      have hle : ∀ a b : Int, a ≤ b → a * E ≤ b * E := fun a b h => Int.mul_le_mul_of_nonneg_right h (Int.le_of_lt hp)
      rcases hXY with h | h
      · have i1 := hle (X - Y) X (by omega)
        have i2 := hle (-(X - Y)) Y (by omega)
        rw [Int.neg_mul] at i2
        omega
      · have i1 := hle (X - Y) (-Y) (by omega)
        have i2 := hle (-(X - Y)) (-X) (by omega)
        rw [Int.neg_mul] at i1
        rw [Int.neg_mul, Int.neg_mul] at i2
        omega
    rcases Int.lt_or_le (X - Y) 0 with hs | hs
    · obtain ⟨r, r0, r1, e⟩ := rank_of (N := -(X - Y)) (q := n) hM hE rfl (by omega) (by omega) hn (by rw [Int.neg_mul]; exact hb.2)
      refine ⟨r, r0, r1, fun h => ?_, fun _ => by rw [← e, Int.neg_mul]⟩
      have := Int.mul_neg_of_neg_of_pos hs hp
      omega
    · obtain ⟨r, r0, r1, e⟩ := rank_of (N := X - Y) (q := n) hM hE rfl hs (by omega) hn hb.1
      refine ⟨r, r0, r1, fun _ => e, fun h => ?_⟩
      have := Int.mul_nonneg hs (Int.le_of_lt hp)
      omega
  rw [← hM]
  have sx : ∀ z : Int, sgm (F.sgn x) z = z ∨ sgm (F.sgn x) z = -z := fun z => by unfold sgm; split <;> simp
  have sy : ∀ z : Int, sgm (F.sgn y) z = z ∨ sgm (F.sgn y) z = -z := fun z => by unfold sgm; split <;> simp
  have lift : ∀ (i l : Nat) (b : Bool) (m : Int), i ≤ l → ∃ Z : Int, sgm b (m * sc 1 (l - 1074)) = Z * sc 1 (i - 1074) := fun i l b m hil => by
    have e : sc 1 (l - 1074) = 2 ^ (l - i) * sc 1 (i - 1074) := by
      rw [← sc_mul1, sc_two _ _ (by omega)]
      congr 1; omega
    rw [e, ← Int.mul_assoc]
    cases b
    · exact ⟨m * 2 ^ (l - i), by simp [sgm]⟩
    · exact ⟨-(m * 2 ^ (l - i)), by simp [sgm, Int.neg_mul]⟩
  rcases Nat.le_total k j with hkj | hkj
  · obtain ⟨Y, hY⟩ := lift k j (F.sgn y) q hkj
    obtain ⟨X, hX⟩ := lift k k (F.sgn x) p (Nat.le_refl _)
    exact key k _ rfl ⟨X, Y, p, by rw [ex, hX], by rw [ey, hY], p1, p0, .inl (by rw [ex]; exact sx _)⟩
  · obtain ⟨X, hX⟩ := lift j k (F.sgn x) p hkj
    obtain ⟨Y, hY⟩ := lift j j (F.sgn y) q (Nat.le_refl _)
    exact key j _ rfl ⟨X, Y, q, by rw [ex, hX], by rw [ey, hY], q1, q0, .inr (by rw [ey]; exact sy _)⟩
theorem ster_p {x y mode : Int} (hm : 0 ≤ mode ∧ mode ≤ 4) (hx : fi x) (hy : fi y) (h : (0 ≤ val y ∧ val y ≤ 2 * val x ∧ val x ≤ 2 * val y) ∨ (val y ≤ 0 ∧ 2 * val y ≤ val x ∧ 2 * val x ≤ val y)) :
    (AT [x, F.neg y] mode).2.1 = false ∧ fi (AT [x, F.neg y] mode).1 ∧ val (AT [x, F.neg y] mode).1 = val x - val y ∧ (AT [x, F.neg y] mode).2.2 = 0 := by
  have hf := f2 hx (fi_neg hy)
  have a := AT_fin hm (by simp) hf
  have t := tot_ok hf (by simp)
  have v1 : vs [x, F.neg y] = val x - val y := by simp [vs, val_neg hy]; omega
  by_cases h0 : vs [x, F.neg y] = 0
  · rw [a.1 h0]
    have z0 : fi 0 ∧ val 0 = 0 := by
      have f0 : fi 0 := fi_of (by omega) (by omega) (by omega)
      refine ⟨f0, ?_⟩
      rw [val_eq f0, show (0 : Int) % 9223372036854775808 = 0 by decide, U_zero]; rfl
    have z1 : fi 9223372036854775808 ∧ val 9223372036854775808 = 0 := by
      have f0 : fi 9223372036854775808 := fi_of (by omega) (by omega) (by omega)
      refine ⟨f0, ?_⟩
      rw [val_eq f0, show (9223372036854775808 : Int) % 9223372036854775808 = 0 by decide, U_zero]; rfl
    refine ⟨rfl, ?_, ?_, rfl⟩
    · dsimp only
      rcases ZR_zero mode hf h0 with e | e
      · rw [e]; exact z0.1
      · rw [e]; exact z1.1
    · dsimp only
      rcases ZR_zero mode hf h0 with e | e
      · rw [e, z0.2]; omega
      · rw [e, z1.2]; omega
  · rw [a.2 h0]
    obtain ⟨r, r0, r1, hr⟩ := ster_rank hx hy h
    have ab := A_abs (tot [x, F.neg y] dz)
    have eA : A (tot [x, F.neg y] dz) = U r := by
      rw [t.2, v1] at ab
      rcases Int.lt_or_le (val x - val y) 0 with hs | hs
      · rw [(ab.2 hs).1]; exact hr.2 hs
      · rw [(ab.1 hs).1]; exact hr.1 hs
    obtain ⟨e1, e2, e3⟩ := exact_p hm t.1 r0 r1 eA
    exact ⟨e1, e2, by rw [e3, t.2, v1], rfl⟩
/-- once -/
theorem once_p {L : List Int} {x mode : Int} (hu : u64s L) (hx : fi x) (he : (AT L mode).2.2 = 0) :
    ((AT (L.reverse ++ [x, F.neg x]) mode).2.2 = 2 ∧ 200 < (L.reverse ++ [x, F.neg x]).length) ∨ ((AT (L.reverse ++ [x, F.neg x]) mode).2.2 = 0 ∧ (AT (L.reverse ++ [x, F.neg x]) mode).2.1 = (AT L mode).2.1 ∧ ((AT (L.reverse ++ [x, F.neg x]) mode).1 = (AT L mode).1 ∨ F.cls (AT (L.reverse ++ [x, F.neg x]) mode).1 = 1 ∧ F.cls (AT L mode).1 = 1)) := by
  have hm : 0 ≤ mode ∧ mode ≤ 4 := by
    rcases Classical.em (0 ≤ mode ∧ mode ≤ 4) with h | h
    · exact h
    · rw [AT_no h] at he; cases he
  have hl : ¬ 200 < L.length := fun h => by rw [AT_large hm h] at he; cases he
  have fn := fi_neg hx
  obtain ⟨R, hR⟩ : ∃ R, L.reverse ++ [x, F.neg x] = R := ⟨_, rfl⟩
  rw [hR]
  have huR : u64s R := by
    intro z hz
    rw [← hR] at hz
    simp only [List.mem_append, List.mem_reverse, List.mem_cons, List.not_mem_nil, or_false] at hz
    rcases hz with hz | rfl | rfl
    · exact hu z hz
    · exact ⟨hx.1, hx.2.1⟩
    · exact ⟨fn.1, fn.2.1⟩
  by_cases hl2 : 200 < R.length
  · exact .inl ⟨by rw [AT_large hm hl2], hl2⟩
  · right
    have nfi : ∀ y, fi y → F.cls y ≠ 5 ∧ (y == 9218868437227405312) = false ∧ (y == 18442240474082181120) = false := fun y hy => by
      have := fi_mod hy
      refine ⟨(cls_fi.2 hy.2.2).1, ?_, ?_⟩ <;> rw [beq_eq_false_iff_ne] <;> rintro rfl <;> simp at this
    have n1 := nfi x hx
    have n2 := nfi _ fn
    have eN : hN R = hN L := by rw [← hR]; simp [hN, n1.1, n2.1]
    have eP : hP R = hP L := by rw [← hR]; unfold hP; rw [List.any_append, List.any_reverse]; simp only [List.any_cons, List.any_nil, n1.2.1, n2.2.1, Bool.or_false]
    have eM : hM R = hM L := by rw [← hR]; unfold hM; rw [List.any_append, List.any_reverse]; simp only [List.any_cons, List.any_nil, n1.2.2, n2.2.2, Bool.or_false]
    by_cases hf : ∀ z ∈ L, fi z
    · have hfR : ∀ z ∈ R, fi z := by
        intro z hz
        rw [← hR] at hz
        simp only [List.mem_append, List.mem_reverse, List.mem_cons, List.not_mem_nil, or_false] at hz
        rcases hz with hz | rfl | rfl
        · exact hf z hz
        · exact hx
        · exact fn
      have ev : vs R = vs L := by
        rw [← hR, vs_append, vs_reverse]
        simp [vs, val_neg hx]
        omega
      have a := AT_fin hm hl hf
      have b := AT_fin hm hl2 hfR
      by_cases h0 : vs L = 0
      · rw [a.1 h0, b.1 (ev.trans h0)]
        exact ⟨rfl, rfl, .inr ⟨(ZR_cls mode hfR (ev.trans h0)).1, (ZR_cls mode hf h0).1⟩⟩
      · rw [a.2 h0, b.2 (by rw [ev]; exact h0)]
        have t1 := tot_ok hf hl
        have t2 := tot_ok hfR hl2
        have e : tot R dz = tot L dz := S_inj t2.1 t1.1 (by rw [t1.2, t2.2, ev])
        rw [e]
        exact ⟨rfl, rfl, .inl rfl⟩
    · have hfR : ¬ ∀ z ∈ R, fi z := fun h => hf fun z hz => h z (by rw [← hR]; simp [hz])
      rw [AT_wv hm hl hu hf, AT_wv hm hl2 huR hfR, eN, eP, eM]
      exact ⟨rfl, rfl, .inl rfl⟩
end SC
end Go.Proofs.YtpmjeipdldnnbaaDoor

/-
  Package prod, pure: products of numbers, their values; what Mul, Fma and Dot tell.
-/
namespace Go.Proofs.YtpmjeipdldnnbaaDoor
set_option linter.unusedVariables false
set_option linter.unusedSimpArgs false
open Go.RowKit
set_option linter.unusedVariables false
set_option linter.unusedSimpArgs false
namespace PC
open L NC NK DC RC SC
/-- what fits easily: sums of products -/
structure FitP (d : Dy) (k : Int) : Prop where
  ok : Ok d
  x : -2148 ≤ d.x
  hi : S d ≤ k * sc 1 2048
  lo : -(k * sc 1 2048) ≤ S d
theorem big_small' {n : Nat} (h : n = 4204) : (2 : Int) ^ n < 4294967296 ^ 400 := by
  have e : (4294967296 : Int) = 2 ^ 32 := by decide
  rw [e, ← Int.pow_mul]
  exact two_lt' (by omega)
theorem inb_fitP {o x t : Int} (ht : t = 2056) (ho : o ≠ 0) (hx : -2148 ≤ x) (h1 : sc o x ≤ sc 1 t) (h2 : -(sc 1 t) ≤ sc o x) : inb o x := by
  have hp := sc_one_pos x
  have e1 : sc o x = o * sc 1 x := sc_mul1 _ _
  have hxt : x ≤ t := by
    rcases Int.lt_or_le t x with h | h
    · exfalso
      have h3 : sc 1 t < sc 1 x := by
        have h4 := sc1_le (x := t + 1) (y := x) (by omega) (by omega)
        have h5 := sc_shift 1 t 1 (by omega)
        rw [show (1 : Int) * 2 ^ 1 = 2 by decide, show t + ((1 : Nat) : Int) = t + 1 by omega, sc_mul1] at h5
        have := sc_one_pos t
        omega
      rw [e1] at h1 h2
      generalize sc 1 x = E at *
      generalize sc 1 t = B at *
      rcases Int.lt_or_le o 0 with h | h
      · have := Int.mul_le_mul_of_nonneg_right (show o ≤ -1 by omega) (Int.le_of_lt hp)
        omega
      · have := Int.mul_le_mul_of_nonneg_right (show 1 ≤ o by omega) (Int.le_of_lt hp)
        omega
    · exact h
  obtain ⟨n, hn⟩ : ∃ n : Nat, n = 4204 := ⟨_, rfl⟩
  have e2 : sc 1 t = 2 ^ n * sc 1 (-2148) := by
    rw [← sc_mul1, sc_two n _ (by omega)]
    congr 1; omega
  have e3 := sc1_le (x := -2148) (y := x) (by omega) (by omega)
  have hq := sc_one_pos (-2148)
  have hb := big_small' hn
  rw [e1, e2] at h1 h2
  have hP := two_pos' n
  have hx2 : x ≤ 2056 := by omega
  clear e2 hn ht
  have l1 : o ≤ 2 ^ n := by
    rcases Int.lt_or_le (2 ^ n) o with h | h
    · exfalso
      have a := Int.mul_le_mul_of_nonneg_right (show 2 ^ n + 1 ≤ o by omega) (Int.le_of_lt hp)
      have b := Int.mul_le_mul_of_nonneg_left e3 (Int.le_of_lt hP)
      rw [Int.add_mul, Int.one_mul] at a
      omega
    · exact h
  have l2 : -(2 ^ n) ≤ o := by
    rcases Int.lt_or_le o (-(2 ^ n)) with h | h
    · exfalso
      have a := Int.mul_le_mul_of_nonneg_right (show o ≤ -(2 ^ n) - 1 by omega) (Int.le_of_lt hp)
      have b := Int.mul_le_mul_of_nonneg_left e3 (Int.le_of_lt hP)
      rw [Int.sub_mul, Int.one_mul, Int.neg_mul] at a
      omega
    · exact h
  unfold inb
  generalize (4294967296 : Int) ^ 400 = c400 at *
  omega
theorem fin_xP {m x : Int} (h : (fin m x).e = 0) (hx : -2148 ≤ x) : -2148 ≤ (fin m x).d.x := by
  rcases fin_x h with h1 | h1
  · have := (fin_ok m x).2.1
    unfold can at this
    omega
  · omega
theorem fit_limP {j t : Int} (hj : j ≤ 256) (ht : t = 2056) : j * sc 1 2048 ≤ sc 1 t := by
  have h := sc_two 8 2048 (by omega)
  have h' : sc 1 t = 256 * sc 1 2048 := by
    rw [← sc_mul1, show (256 : Int) = 2 ^ 8 by decide, h, ht]; rfl
  rw [h']
  exact Int.mul_le_mul_of_nonneg_right hj (Int.le_of_lt (sc_one_pos _))
theorem fin_fitP {m x k : Int} (hx : -2148 ≤ x) (hk : k ≤ 256) (h1 : sc m x ≤ k * sc 1 2048) (h2 : -(k * sc 1 2048) ≤ sc m x) : (fin m x).e = 0 := by
  obtain ⟨t, ht⟩ : ∃ t : Int, t = 2056 := ⟨_, rfl⟩
  have hl := fit_limP hk ht
  by_cases h0 : m = 0
  · subst h0; rw [fin_zero]
  · obtain ⟨o, o1, o2⟩ := tz_spec h0
    rw [fin_of o1 o2]
    have e := sc_shift o x (tz m) (by omega)
    rw [← o1] at e
    rw [e] at h1 h2
    have hi := inb_fitP (o := o) (x := x + tz m) ht (odd_ne o2) (by omega) (by omega) (by omega)
    rw [if_pos hi]
theorem add_fitP {a b : Dy} {j k : Int} (ha : FitP a j) (hb : FitP b k) (hk : j + k ≤ 256) : (DC.Add a b).e = 0 ∧ FitP (DC.Add a b).d (j + k) ∧ S (DC.Add a b).d = S a + S b := by
  have he : ee a.er b.er = 0 := ee0.2 ⟨ha.ok.1, hb.ok.1⟩
  have x1 := ha.x
  have x2 := hb.x
  have h1 := ha.hi
  have h2 := ha.lo
  have h3 := hb.hi
  have h4 := hb.lo
  have e1 : sc (lv2 a b + lv2 b a) (min a.x b.x) = S a + S b := by
    rw [sc_add, sc_lv2 a b (by omega)]
    have := sc_lv2 b a (by omega)
    rw [Int.min_comm b.x a.x] at this
    rw [this]; rfl
  have e2 : (j + k) * sc 1 2048 = j * sc 1 2048 + k * sc 1 2048 := Int.add_mul _ _ _
  have e0 : (DC.Add a b).e = 0 := by
    unfold DC.Add
    rw [if_neg (by simpa using he)]
    unfold sum
    exact fin_fitP (k := j + k) (by omega) hk (by rw [e1, e2]; omega) (by rw [e1, e2]; omega)
  have hS := (add_ok e0 (fun _ => ha.ok) (fun _ => hb.ok)).2.2
  refine ⟨e0, ⟨add_good a b, ?_, by rw [hS, e2]; omega, by rw [hS, e2]; omega⟩, hS⟩
  unfold DC.Add at e0 ⊢
  rw [if_neg (by simpa using he)] at e0 ⊢
  unfold sum at e0 ⊢
  exact fin_xP e0 (by omega)
theorem fitP_zero : FitP dz 0 := by
  have e : S dz = 0 := sc_zero.2 rfl
  refine ⟨ok_dz, by decide, ?_, ?_⟩ <;> rw [e] <;> omega
theorem fitP_mono {d : Dy} {j k : Int} (h : FitP d j) (hk : j ≤ k) : FitP d k := by
  have := Int.mul_le_mul_of_nonneg_right hk (Int.le_of_lt (sc_one_pos 2048))
  exact ⟨h.ok, h.x, Int.le_trans h.hi this, by have := h.lo; omega⟩
theorem fitP_of {d : Dy} (h : Fit d 1) : FitP d 1 := by
  have := sc1_le (x := 1024) (y := 2048) (by omega) (by omega)
  have h1 := h.hi
  have h2 := h.lo
  exact ⟨h.ok, by have := h.x; omega, by omega, by omega⟩
theorem prod_le {a b B : Int} (hB : 0 ≤ B) (a1 : a ≤ B) (a2 : -B ≤ a) (b1 : b ≤ B) (b2 : -B ≤ b) : a * b ≤ B * B ∧ -(B * B) ≤ a * b := by
  have h : (a * b).natAbs ≤ (B * B).natAbs := by
    rw [Int.natAbs_mul, Int.natAbs_mul]
    exact Nat.mul_le_mul (by omega) (by omega)
  have : 0 ≤ B * B := Int.mul_nonneg hB hB
  omega
theorem mul_fit {a b : Dy} (ha : Fit a 1) (hb : Fit b 1) {K : Nat} (hK : K = 60000) : (DC.Mul a b).e = 0 ∧ FitP (DC.Mul a b).d 1 ∧ S (DC.Mul a b).d * 2 ^ K = S a * S b := by
  have he : ee a.er b.er = 0 := ee0.2 ⟨ha.ok.1, hb.ok.1⟩
  have x1 := ha.x
  have x2 := hb.x
  have e1 := sc_mul (m := a.m) (n := b.m) (x := a.x) (y := b.x) (by omega) (by omega) hK
  obtain ⟨u, hu⟩ : ∃ u : Int, u = 1024 := ⟨_, rfl⟩
  have e2 := sc_mul (m := 1) (n := 1) (x := u) (y := u) (by omega) (by omega) hK
  rw [Int.one_mul] at e2
  have hp := sc_one_pos u
  have h1 := ha.hi
  have h2 := ha.lo
  have h3 := hb.hi
  have h4 := hb.lo
  rw [Int.one_mul, ← hu] at h1 h2 h3 h4
  have pl := prod_le (Int.le_of_lt hp) h1 h2 h3 h4
  have hP := two_pos' K
  have l1 : sc (a.m * b.m) (a.x + b.x) ≤ sc 1 (u + u) := by
    apply Int.le_of_mul_le_mul_right _ hP
    rw [e1, e2]; exact pl.1
  have l2 : -sc 1 (u + u) ≤ sc (a.m * b.m) (a.x + b.x) := by
    apply Int.le_of_mul_le_mul_right _ hP
    rw [Int.neg_mul, e1, e2]; exact pl.2
  have eu : sc 1 (u + u) = sc 1 2048 := by congr 1; omega
  rw [eu] at l1 l2
  have e0 : (DC.Mul a b).e = 0 := by
    unfold DC.Mul
    rw [if_neg (by simpa using he)]
    exact fin_fitP (k := 1) (by omega) (by omega) (by rw [Int.one_mul]; exact l1) (by rw [Int.one_mul]; exact l2)
  have hS := (mul_ok e0 (fun _ => ha.ok) (fun _ => hb.ok) hK).2.2
  have hS' : S (DC.Mul a b).d = sc (a.m * b.m) (a.x + b.x) := by
    apply Int.eq_of_mul_eq_mul_right (Int.ne_of_gt hP)
    rw [hS, e1]; rfl
  refine ⟨e0, ⟨mul_good' a b, ?_, by rw [hS', Int.one_mul]; exact l1, by rw [hS', Int.one_mul]; exact l2⟩, hS⟩
  unfold DC.Mul at e0 ⊢
  rw [if_neg (by simpa using he)] at e0 ⊢
  exact fin_xP e0 (by omega)
/-- the product of two numbers -/
def PD (x y : Int) : Re := if F.exq x = 2047 ∨ F.exq y = 2047 then ⟨4, dz⟩ else DC.Mul (OfD x).d (OfD y).d
theorem pd_p {x y : Int} (hx : fi x) (hy : fi y) {K : Nat} (hK : K = 60000) : (PD x y).e = 0 ∧ FitP (PD x y).d 1 ∧ S (PD x y).d * 2 ^ K = val x * val y := by
  unfold PD
  rw [if_neg (by have := hx.2.2; have := hy.2.2; omega)]
  exact mul_fit (of_fit hx).2 (of_fit hy).2 hK
theorem K_inj {a b : Int} {K : Nat} (h : a * 2 ^ K = b * 2 ^ K) : a = b := Int.eq_of_mul_eq_mul_right (Int.ne_of_gt (two_pos' K)) h
theorem pd_comm {x y : Int} (hx : fi x) (hy : fi y) : (PD x y).d = (PD y x).d := by
  obtain ⟨K, hK⟩ : ∃ K : Nat, K = 60000 := ⟨_, rfl⟩
  have a := pd_p hx hy hK
  have b := pd_p hy hx hK
  refine S_inj a.2.1.ok b.2.1.ok (K_inj (K := K) ?_)
  rw [a.2.2, b.2.2, Int.mul_comm]
theorem neg_ok {d : Dy} (h : Ok d) : Ok (neg d) := by
  obtain ⟨a, b, c⟩ := h
  refine ⟨a, ?_, ?_⟩
  · unfold can at *
    show (-d.m = 0 ∧ d.x = 0) ∨ -d.m % 2 = 1
    omega
  · unfold inb at *
    show -d.m < _ ∧ _ < -d.m ∧ -10000 ≤ d.x ∧ d.x ≤ 10000
    generalize (4294967296 : Int) ^ 400 = c400 at *
    omega
theorem pd_neg {x y : Int} (hx : fi x) (hy : fi y) : (PD (F.neg x) y).d = neg (PD x y).d := by
  obtain ⟨K, hK⟩ : ∃ K : Nat, K = 60000 := ⟨_, rfl⟩
  have a := pd_p (fi_neg hx) hy hK
  have b := pd_p hx hy hK
  refine S_inj a.2.1.ok (neg_ok b.2.1.ok) (K_inj (K := K) ?_)
  rw [a.2.2, S_neg, Int.neg_mul, b.2.2, val_neg hx, Int.neg_mul]
/-- the sign of a product, as bits -/
def sp (x y : Int) : Int := if F.sgn x = F.sgn y then 0 else 9223372036854775808
/-- what is told by classes -/
def bc (x y : Int) : Int × Bool :=
  if max (F.cls x) (F.cls y) = 5 ∨ (max (F.cls x) (F.cls y) = 4 ∧ min (F.cls x) (F.cls y) = 1) then (9221120237041090560, true)
  else if max (F.cls x) (F.cls y) = 4 then (sp x y + 9218868437227405312, true)
  else if min (F.cls x) (F.cls y) = 1 then (sp x y, true)
  else (0, false)
noncomputable def MT (x y mode : Int) : Int × Bool × Int :=
  if ¬ (0 ≤ mode ∧ mode ≤ 4) then (0, false, 1)
  else if (bc x y).2 = true then ((bc x y).1, false, 0)
  else (TX (PD x y).d mode, TL (PD x y).d mode, 0)
/-- the product and one more -/
def fd (x y z : Int) : Dy := (DC.Add (PD x y).d (OfD z).d).d
noncomputable def FT (x y z mode : Int) : Int × Bool × Int :=
  if ¬ (0 ≤ mode ∧ mode ≤ 4) then (0, false, 1)
  else if (bc x y).2 = true then AT [(bc x y).1, z] mode
  else if F.exq z = 2047 then AT [0, z] mode
  else if (fd x y z).m = 0 ∧ mode = 2 then (9223372036854775808, false, 0)
  else (TX (fd x y z) mode, TL (fd x y z) mode, 0)
theorem sp2 (x y : Int) : sp x y = 0 ∨ sp x y = 9223372036854775808 := by unfold sp; split <;> simp
theorem sp_comm (x y : Int) : sp x y = sp y x := by unfold sp; cases F.sgn x <;> cases F.sgn y <;> rfl
theorem sp_neg {x : Int} (hx : 0 ≤ x ∧ x ≤ 18446744073709551615) (y : Int) : sp (F.neg x) y = F.neg (sp x y) := by
  unfold sp
  rw [F.sgn_neg x hx.1 hx.2]
  cases F.sgn x <;> cases F.sgn y <;> decide
theorem sp_neg' {x : Int} (hx : 0 ≤ x ∧ x ≤ 18446744073709551615) (y : Int) : sp (F.neg x) y + 9218868437227405312 = F.neg (sp x y + 9218868437227405312) := by
  rw [sp_neg hx]
  rcases sp2 x y with h | h <;> rw [h] <;> decide
theorem bc_comm (x y : Int) : bc x y = bc y x := by
  unfold bc
  rw [Int.max_comm, Int.min_comm, sp_comm]
theorem cls1 {x : Int} (h0 : 0 ≤ x) (h1 : x ≤ 18446744073709551615) : F.cls x = 1 ↔ x = 0 ∨ x = 9223372036854775808 := by
  unfold F.cls F.exq F.fra
  constructor
  · intro h; repeat (first | omega | split at h)
  · rintro (rfl | rfl) <;> decide
theorem val00 : fi 0 ∧ val 0 = 0 := by
  have f0 : fi 0 := fi_of (by omega) (by omega) (by omega)
  refine ⟨f0, ?_⟩
  rw [val_eq f0, show (0 : Int) % 9223372036854775808 = 0 by decide, U_zero]; rfl
theorem val08 : fi 9223372036854775808 ∧ val 9223372036854775808 = 0 := by
  have f0 : fi 9223372036854775808 := fi_of (by omega) (by omega) (by omega)
  refine ⟨f0, ?_⟩
  rw [val_eq f0, show (9223372036854775808 : Int) % 9223372036854775808 = 0 by decide, U_zero]; rfl
theorem val0 {x : Int} (h : fi x) : val x = 0 ↔ F.cls x = 1 := by
  rw [cls1 h.1 h.2.1]
  constructor
  · exact val_zero h
  · rintro (rfl | rfl)
    · exact val00.2
    · exact val08.2
theorem fi_cls {x : Int} (hx : 0 ≤ x ∧ x ≤ 18446744073709551615) : fi x ↔ F.cls x ≤ 3 := by
  have := F.cls_bd x
  have := cls_fi (x := x)
  constructor
  · intro h; have := this.2 h.2.2; omega
  · intro h; exact ⟨hx.1, hx.2, this.1 (by omega)⟩
theorem bc_no {x y : Int} (hx : 0 ≤ x ∧ x ≤ 18446744073709551615) (hy : 0 ≤ y ∧ y ≤ 18446744073709551615) : (bc x y).2 = false ↔ fi x ∧ fi y ∧ val x ≠ 0 ∧ val y ≠ 0 := by
  have a := F.cls_bd x
  have b := F.cls_bd y
  have e : (bc x y).2 = false ↔ (F.cls x ≤ 3 ∧ F.cls y ≤ 3 ∧ F.cls x ≠ 1 ∧ F.cls y ≠ 1) := by
    unfold bc
    by_cases h1 : max (F.cls x) (F.cls y) = 5 ∨ (max (F.cls x) (F.cls y) = 4 ∧ min (F.cls x) (F.cls y) = 1)
    · rw [if_pos h1]; simp; omega
    · rw [if_neg h1]
      by_cases h2 : max (F.cls x) (F.cls y) = 4
      · rw [if_pos h2]; simp; omega
      · rw [if_neg h2]
        by_cases h3 : min (F.cls x) (F.cls y) = 1
        · rw [if_pos h3]; simp; omega
        · rw [if_neg h3]; simp; omega
  rw [e]
  constructor
  · rintro ⟨h1, h2, h3, h4⟩
    have f := (fi_cls hx).2 h1
    have g := (fi_cls hy).2 h2
    exact ⟨f, g, fun h => h3 ((val0 f).1 h), fun h => h4 ((val0 g).1 h)⟩
  · rintro ⟨f, g, h3, h4⟩
    exact ⟨(fi_cls hx).1 f, (fi_cls hy).1 g, fun h => h3 ((val0 f).2 h), fun h => h4 ((val0 g).2 h)⟩
theorem MT_no {x y mode : Int} (h : ¬ (0 ≤ mode ∧ mode ≤ 4)) : MT x y mode = (0, false, 1) := by unfold MT; rw [if_pos h]
theorem MT_bc {x y mode : Int} (hm : 0 ≤ mode ∧ mode ≤ 4) (h : (bc x y).2 = true) : MT x y mode = ((bc x y).1, false, 0) := by
  unfold MT; rw [if_neg (by simpa using hm), if_pos h]
theorem MT_fi {x y mode : Int} (hm : 0 ≤ mode ∧ mode ≤ 4) (h : (bc x y).2 = false) : MT x y mode = (TX (PD x y).d mode, TL (PD x y).d mode, 0) := by
  unfold MT; rw [if_neg (by simpa using hm), if_neg (by rw [h]; simp)]
theorem MT_ok {x y mode : Int} (hm : 0 ≤ mode ∧ mode ≤ 4) : ∃ a b, MT x y mode = (a, b, 0) := by
  cases h : (bc x y).2
  · exact ⟨_, _, MT_fi hm h⟩
  · exact ⟨_, _, MT_bc hm h⟩
theorem bc_bd (x y : Int) : 0 ≤ (bc x y).1 ∧ (bc x y).1 ≤ 18446744073709551615 := by
  unfold bc
  rcases sp2 x y with h | h <;> rw [h] <;> (repeat (first | split | simp))
theorem MT_bd {x y : Int} (mode : Int) (hx : 0 ≤ x ∧ x ≤ 18446744073709551615) (hy : 0 ≤ y ∧ y ≤ 18446744073709551615) : 0 ≤ (MT x y mode).1 ∧ (MT x y mode).1 ≤ 18446744073709551615 := by
  by_cases hm : 0 ≤ mode ∧ mode ≤ 4
  · cases h : (bc x y).2
    · rw [MT_fi hm h]
      obtain ⟨f, g, -⟩ := (bc_no hx hy).1 h
      have := TX_bd (PD x y).d mode fun _ => (pd_p f g rfl).2.1.ok
      exact ⟨this.1, this.2.1⟩
    · rw [MT_bc hm h]; exact bc_bd x y
  · rw [MT_no hm]; exact ⟨by simp, by simp⟩
theorem MT_comm {x y mode : Int} (hx : 0 ≤ x ∧ x ≤ 18446744073709551615) (hy : 0 ≤ y ∧ y ≤ 18446744073709551615) : MT x y mode = MT y x mode := by
  by_cases hm : 0 ≤ mode ∧ mode ≤ 4
  · cases h : (bc x y).2
    · have h' := h
      rw [bc_comm] at h'
      obtain ⟨f, g, -⟩ := (bc_no hx hy).1 h
      rw [MT_fi hm h, MT_fi hm h', pd_comm f g]
    · have h' := h
      rw [bc_comm] at h'
      rw [MT_bc hm h, MT_bc hm h', bc_comm]
  · rw [MT_no hm, MT_no hm]
end PC
end Go.Proofs.YtpmjeipdldnnbaaDoor

/-
  Package prod, pure: one; turned; in order; powers of two; what is exact.
-/
namespace Go.Proofs.YtpmjeipdldnnbaaDoor
set_option linter.unusedVariables false
set_option linter.unusedSimpArgs false
open Go.RowKit
set_option linter.unusedVariables false
set_option linter.unusedSimpArgs false
namespace PC
open L NC NK DC RC SC
/-- a power of two as a number -/
theorem pow_val {p k : Int} (hk : -1022 ≤ k) (hk' : k ≤ 1023) (hp : p = (1023 + k) * 4503599627370496) : fi p ∧ val p = sc 1 k ∧ F.sgn p = false ∧ F.cls p = 3 := by
  have fp : fi p := fi_of (by omega) (by omega) (by omega)
  obtain ⟨j, hj⟩ : ∃ j : Nat, (j : Int) = 1022 + k := ⟨(1022 + k).toNat, by omega⟩
  have u := (U_of (k := j) (q := 4503599627370496) (by omega) (by omega) (by omega)).1
  rw [show (j : Int) * 4503599627370496 + 4503599627370496 = p by omega] at u
  have hs : F.sgn p = false := F.sgn_f (by omega)
  refine ⟨fp, ?_, hs, ?_⟩
  · rw [val_eq fp, hs, show p % 9223372036854775808 = p by omega, u]
    unfold sgm
    rw [← sc_mul1, show (4503599627370496 : Int) = 2 ^ 52 by decide, sc_two 52 _ (by omega)]
    simp
    congr 1; omega
  · unfold F.cls F.exq
    rw [if_neg (by omega), if_pos (by omega)]
theorem one_val {O : Int} (hO : O = 4607182418800017408) {K : Nat} (hK : K = 60000) : fi O ∧ val O = 2 ^ K ∧ F.sgn O = false ∧ F.cls O = 3 := by
  have h := pow_val (p := O) (k := 0) (by omega) (by omega) (by omega)
  refine ⟨h.1, ?_, h.2.2⟩
  rw [h.2.1]
  unfold sc
  rw [Int.one_mul]
  congr 1; omega
theorem pd_one {x O : Int} (hx : fi x) (hO : O = 4607182418800017408) : (PD x O).d = (OfD x).d := by
  obtain ⟨K, hK⟩ : ∃ K : Nat, K = 60000 := ⟨_, rfl⟩
  have o := one_val hO hK
  have a := pd_p hx o.1 hK
  have b := of_fit hx
  refine S_inj a.2.1.ok b.2.ok (K_inj (K := K) ?_)
  rw [a.2.2, o.2.1]; rfl
theorem bc_one {x O : Int} (hx : 0 ≤ x ∧ x ≤ 18446744073709551615) (hO : O = 4607182418800017408) : bc x O = if F.cls x = 5 then (9221120237041090560, true) else if F.cls x = 4 ∨ F.cls x = 1 then (x, true) else (0, false) := by
  obtain ⟨K, hK⟩ : ∃ K : Nat, K = 60000 := ⟨_, rfl⟩
  have o := one_val hO hK
  have a := F.cls_bd x
  have ci := cls_inf hx.1 hx.2
  have c1 := cls1 hx.1 hx.2
  have es : sp x O = if F.sgn x = false then 0 else 9223372036854775808 := by unfold sp; rw [o.2.2.1]
  unfold bc
  rw [o.2.2.2, es]
  by_cases h5 : F.cls x = 5
  · rw [if_pos (by omega), if_pos h5]
  · rw [if_neg (by omega), if_neg h5]
    by_cases h4 : F.cls x = 4
    · rw [if_pos (by omega), if_pos (show F.cls x = 4 ∨ F.cls x = 1 from .inl h4)]
      rcases ci.1 h4 with rfl | rfl
      · simp [F.sgn]
      · simp [F.sgn]
    · rw [if_neg (by omega)]
      by_cases h1 : F.cls x = 1
      · rw [if_pos (by omega), if_pos (show F.cls x = 4 ∨ F.cls x = 1 from .inr h1)]
        rcases c1.1 h1 with rfl | rfl
        · simp [F.sgn]
        · simp [F.sgn]
      · rw [if_neg (by omega), if_neg (by omega)]
theorem MT_one {x mode O : Int} (hm : 0 ≤ mode ∧ mode ≤ 4) (hx : 0 ≤ x ∧ x ≤ 18446744073709551615) (hO : O = 4607182418800017408) : MT x O mode = (if F.cls x = 5 then 9221120237041090560 else x, false, 0) := by
  obtain ⟨K, hK⟩ : ∃ K : Nat, K = 60000 := ⟨_, rfl⟩
  have o := one_val hO hK
  have e := bc_one hx hO
  cases h : (bc x O).2
  · rw [MT_fi hm h]
    obtain ⟨f, -, h0, -⟩ := (bc_no hx ⟨o.1.1, o.1.2.1⟩).1 h
    have s := same_p f.1 f.2.1 f.2.2 hm
    have h5 : F.cls x ≠ 5 := (cls_fi.2 f.2.2).1
    rw [pd_one f hO, if_neg h5, s.2.1]
    rcases s.2.2 with h1 | ⟨-, rfl, -⟩
    · rw [eq_of_beq h1]
    · exact absurd val08.2 h0
  · rw [MT_bc hm h, e]
    rw [e] at h
    by_cases h5 : F.cls x = 5
    · rw [if_pos h5, if_pos h5]
    · rw [if_neg h5] at h ⊢
      rw [if_neg h5]
      by_cases h4 : F.cls x = 4 ∨ F.cls x = 1
      · rw [if_pos h4]
      · rw [if_neg h4] at h; cases h
theorem S_m' {d : Dy} : d.m = 0 ↔ S d = 0 := sc_zero.symm
theorem pd_ne {x y : Int} (hx : fi x) (hy : fi y) (h0 : val x ≠ 0) (h1 : val y ≠ 0) : (PD x y).d.m ≠ 0 := by
  obtain ⟨K, hK⟩ : ∃ K : Nat, K = 60000 := ⟨_, rfl⟩
  have a := pd_p hx hy hK
  intro h
  rw [S_m'] at h
  rw [h, Int.zero_mul] at a
  rcases Int.mul_eq_zero.1 a.2.2.symm with h2 | h2
  · exact h0 h2
  · exact h1 h2
theorem TX_cls {d : Dy} {mode : Int} (h : Ok d) : F.cls (TX d mode) ≠ 5 := cls_nn.2 (TX_bd d mode fun _ => h).2.2
/-- turned -/
theorem mul_turn {x y mode : Int} (hm : 0 ≤ mode ∧ mode ≤ 4) (hx : 0 ≤ x ∧ x ≤ 18446744073709551615) (hy : 0 ≤ y ∧ y ≤ 18446744073709551615) :
    ∃ a b g, MT x y mode = (a, b, 0) ∧ MT (F.neg x) y (tm mode) = (g, b, 0) ∧ ((F.cls a = 5 ∧ g = 9221120237041090560) ∨ (F.cls a ≠ 5 ∧ g = F.neg a)) := by
  have hm' : 0 ≤ tm mode ∧ tm mode ≤ 4 := by unfold tm; split; omega; split <;> omega
  have hx' := F.neg_bd x hx.1 hx.2
  have eb : bc (F.neg x) y = if max (F.cls x) (F.cls y) = 5 ∨ (max (F.cls x) (F.cls y) = 4 ∧ min (F.cls x) (F.cls y) = 1) then (9221120237041090560, true)
      else if max (F.cls x) (F.cls y) = 4 then (F.neg (sp x y + 9218868437227405312), true)
      else if min (F.cls x) (F.cls y) = 1 then (F.neg (sp x y), true) else (0, false) := by
    unfold bc
    rw [F.cls_neg, sp_neg' hx, sp_neg hx]
  have e0 : bc x y = if max (F.cls x) (F.cls y) = 5 ∨ (max (F.cls x) (F.cls y) = 4 ∧ min (F.cls x) (F.cls y) = 1) then (9221120237041090560, true)
      else if max (F.cls x) (F.cls y) = 4 then (sp x y + 9218868437227405312, true)
      else if min (F.cls x) (F.cls y) = 1 then (sp x y, true) else (0, false) := rfl
  by_cases h1 : max (F.cls x) (F.cls y) = 5 ∨ (max (F.cls x) (F.cls y) = 4 ∧ min (F.cls x) (F.cls y) = 1)
  · rw [if_pos h1] at eb e0
    rw [MT_bc hm (by rw [e0]), MT_bc hm' (by rw [eb]), e0, eb]
    exact ⟨_, _, _, rfl, rfl, .inl ⟨by decide, rfl⟩⟩
  · rw [if_neg h1] at eb e0
    by_cases h2 : max (F.cls x) (F.cls y) = 4
    · rw [if_pos h2] at eb e0
      rw [MT_bc hm (by rw [e0]), MT_bc hm' (by rw [eb]), e0, eb]
      refine ⟨_, _, _, rfl, rfl, .inr ⟨?_, rfl⟩⟩
      rcases sp2 x y with h | h <;> rw [h] <;> decide
    · rw [if_neg h2] at eb e0
      by_cases h3 : min (F.cls x) (F.cls y) = 1
      · rw [if_pos h3] at eb e0
        rw [MT_bc hm (by rw [e0]), MT_bc hm' (by rw [eb]), e0, eb]
        refine ⟨_, _, _, rfl, rfl, .inr ⟨?_, rfl⟩⟩
        rcases sp2 x y with h | h <;> rw [h] <;> decide
      · rw [if_neg h3] at eb e0
        have n1 : (bc x y).2 = false := by rw [e0]
        have n2 : (bc (F.neg x) y).2 = false := by rw [eb]
        obtain ⟨f, g, k0, k1⟩ := (bc_no hx hy).1 n1
        rw [MT_fi hm n1, MT_fi hm' n2, pd_neg f g]
        have a := (pd_p f g rfl).2.1.ok
        have t := turned_p a (pd_ne f g k0 k1) hm
        rw [t.2.2.1, t.2.2.2]
        exact ⟨_, _, _, rfl, rfl, .inr ⟨TX_cls a, rfl⟩⟩
/-- in order -/
theorem rnk0 {x : Int} (hx : fi x) (h : F.cls x = 1) : F.rnk x = 0 := by
  rcases (cls1 hx.1 hx.2.1).1 h with rfl | rfl <;> decide
theorem MT_rnk {x z mode : Int} (hm : 0 ≤ mode ∧ mode ≤ 4) (hx : fi x) (hz : fi z) : F.rnk (MT x z mode).1 = F.rnk (TX (PD x z).d mode) := by
  obtain ⟨K, hK⟩ : ∃ K : Nat, K = 60000 := ⟨_, rfl⟩
  have hx' := And.intro hx.1 hx.2.1
  have hz' := And.intro hz.1 hz.2.1
  cases h : (bc x z).2
  · rw [MT_fi hm h]
  · rw [MT_bc hm h]
    have a := pd_p hx hz hK
    have c1 := (fi_cls hx').1 hx
    have c2 := (fi_cls hz').1 hz
    have h3 : min (F.cls x) (F.cls z) = 1 := by
      rcases Classical.em (min (F.cls x) (F.cls z) = 1) with h3 | h3
      · exact h3
      · exfalso
        unfold bc at h
        rw [if_neg (by omega), if_neg (by omega), if_neg h3] at h
        cases h
    have e : bc x z = (sp x z, true) := by
      unfold bc
      rw [if_neg (by omega), if_neg (by omega), if_pos h3]
    have h0 : S (PD x z).d = 0 := by
      apply K_inj (K := K)
      rw [a.2.2, Int.zero_mul, Int.mul_eq_zero, val0 hx, val0 hz]
      omega
    rw [e, TX_zero hm a.2.1.ok h0]
    show F.rnk (sp x z) = 0
    rcases sp2 x z with h | h <;> rw [h] <;> decide
theorem order_mul {x y z mode : Int} (hm : 0 ≤ mode ∧ mode ≤ 4) (hx : 0 ≤ x ∧ x ≤ 18446744073709551615) (hy : 0 ≤ y ∧ y ≤ 18446744073709551615) (hz : 0 ≤ z ∧ z ≤ 18446744073709551615) (nx : F.nn x) (ny : F.nn y) (nz : F.nn z) (h : F.rnk x ≤ F.rnk y) (h0 : 0 ≤ F.rnk z)
    (na : F.nn (MT x z mode).1) (nb : F.nn (MT y z mode).1) : F.rnk (MT x z mode).1 ≤ F.rnk (MT y z mode).1 := by
  have c5 : F.cls (9221120237041090560 : Int) = 5 := by decide
  have l1 := rnk_lim (MT_bd mode hx hz) na
  have l2 := rnk_lim (MT_bd mode hy hz) nb
  have kk : ∀ a : Int, 0 ≤ a ∧ a ≤ 18446744073709551615 → F.nn a → fi a ∨ a = 9218868437227405312 ∨ a = 18442240474082181120 := fun a ha hn => by
    by_cases h4 : F.cls a = 4
    · exact .inr ((cls_inf ha.1 ha.2).1 h4)
    · exact .inl ⟨ha.1, ha.2, cls_fi.1 ⟨cls_nn.2 hn, h4⟩⟩
  have r9 : F.rnk 9218868437227405312 = 9218868437227405312 := rP
  -- an infinite one
  have inf : ∀ a : Int, 0 ≤ a ∧ a ≤ 18446744073709551615 → F.nn a → F.nn (MT a z mode).1 → (a = 9218868437227405312 → (MT a z mode).1 = 9218868437227405312) ∧ (a = 18442240474082181120 → (MT a z mode).1 = 18442240474082181120) := by
    intro a ha hna hn
    have hs : F.sgn z = false ∨ F.cls z = 1 := by
      have : z ≤ 9223372036854775808 := by unfold F.rnk at h0; split at h0 <;> omega
      rcases Int.lt_or_eq_of_le this with h1 | rfl
      · exact .inl (F.sgn_f h1)
      · exact .inr (by decide)
    have c := F.cls_bd z
    have n5 := cls_nn.2 nz
    constructor
    · rintro rfl
      have c4 : F.cls (9218868437227405312 : Int) = 4 := by decide
      by_cases h1 : F.cls z = 1
      · exfalso
        have e : bc 9218868437227405312 z = (9221120237041090560, true) := by unfold bc; rw [c4, if_pos (by omega)]
        rw [MT_bc hm (by rw [e]), e] at hn
        exact absurd hn (by unfold F.nn; decide)
      · have e : bc 9218868437227405312 z = (9218868437227405312, true) := by
          unfold bc sp
          rw [c4, if_neg (by omega), if_pos (by omega), if_pos (by rw [hs.resolve_right h1]; decide)]; rfl
        rw [MT_bc hm (by rw [e]), e]
    · rintro rfl
      have c4 : F.cls (18442240474082181120 : Int) = 4 := by decide
      by_cases h1 : F.cls z = 1
      · exfalso
        have e : bc 18442240474082181120 z = (9221120237041090560, true) := by unfold bc; rw [c4, if_pos (by omega)]
        rw [MT_bc hm (by rw [e]), e] at hn
        exact absurd hn (by unfold F.nn; decide)
      · have e : bc 18442240474082181120 z = (18442240474082181120, true) := by
          unfold bc sp
          rw [c4, if_neg (by omega), if_pos (by omega), if_neg (by rw [hs.resolve_right h1]; decide)]; rfl
        rw [MT_bc hm (by rw [e]), e]
  rcases kk z hz nz with fz | rfl | rfl
  · rcases kk x hx nx with fx | rfl | rfl
    · rcases kk y hy ny with fy | rfl | rfl
      · rw [MT_rnk hm fx fz, MT_rnk hm fy fz]
        obtain ⟨K, hK⟩ : ∃ K : Nat, K = 60000 := ⟨_, rfl⟩
        have a := pd_p fx fz hK
        have b := pd_p fy fz hK
        apply order_p a.2.1.ok b.2.1.ok hm
        apply Int.le_of_mul_le_mul_right _ (two_pos' K)
        rw [a.2.2, b.2.2]
        exact Int.mul_le_mul_of_nonneg_right (val_le fx fy h) (val_pos fz h0)
      · rw [(inf _ hy ny nb).1 rfl, r9]; exact l1.2
      · have := rnk_fi fx; rw [rM] at h; omega
    · have hy9 : y = 9218868437227405312 := by
        rcases kk y hy ny with fy | rfl | rfl
        · have := rnk_fi fy; rw [r9] at h; omega
        · rfl
        · rw [r9, rM] at h; omega
      subst hy9
      exact Int.le_refl _
    · rw [(inf _ hx nx na).2 rfl, rM]; exact l2.1
  · -- times Inf
    have c4 : F.cls (9218868437227405312 : Int) = 4 := by decide
    have s9 : F.sgn (9218868437227405312 : Int) = false := by decide
    have val' : ∀ a : Int, 0 ≤ a ∧ a ≤ 18446744073709551615 → F.nn a → F.nn (MT a 9218868437227405312 mode).1 → F.cls a ≠ 1 ∧ (MT a 9218868437227405312 mode).1 = if F.sgn a = false then 9218868437227405312 else 18442240474082181120 := by
      intro a ha hna hn
      have c := F.cls_bd a
      have n5 := cls_nn.2 hna
      have h1 : F.cls a ≠ 1 := fun h1 => by
        have e : bc a 9218868437227405312 = (9221120237041090560, true) := by unfold bc; rw [c4, if_pos (by omega)]
        rw [MT_bc hm (by rw [e]), e] at hn
        exact absurd hn (by unfold F.nn; decide)
      refine ⟨h1, ?_⟩
      have e : bc a 9218868437227405312 = (sp a 9218868437227405312 + 9218868437227405312, true) := by
        unfold bc
        rw [c4, if_neg (by omega), if_pos (by omega)]
      rw [MT_bc hm (by rw [e]), e]
      unfold sp
      rw [s9]
      split <;> rfl
    obtain ⟨x1, x2⟩ := val' x hx nx na
    obtain ⟨y1, y2⟩ := val' y hy ny nb
    rw [x2, y2]
    cases hsx : F.sgn x
    · cases hsy : F.sgn y
      · exact Int.le_refl _
      · exfalso
        have a := (F.sgn_iff' x).1 hsx
        have b := (F.sgn_iff y).1 hsy
        have c := mt (cls1 hx.1 hx.2).2 x1
        have d := mt (cls1 hy.1 hy.2).2 y1
        unfold F.rnk at h
        rw [if_pos a, if_neg (by omega)] at h
        omega
    · cases hsy : F.sgn y
      · decide
      · exact Int.le_refl _
  · exfalso; rw [rM] at h0; omega
/-- times a power of two -/
theorem mk_val {s : Bool} {e f w : Int} (he : 1 ≤ e ∧ e ≤ 2046) (hf : 0 ≤ f ∧ f ≤ 4503599627370495) (hw : w = F.mk s e f) : fi w ∧ val w = sgm s (sc (4503599627370496 + f) (e - 1075)) := by
  have bd := F.mk_bd s e f (by omega) (by omega) hf.1 hf.2
  have e1 := F.exq_mk s e f (by omega) (by omega) hf.1 hf.2
  have e3 := F.sgn_mk s e f (by omega) (by omega) hf.1 hf.2
  have e2 := F.fra_mk s e f (by omega) (by omega) hf.1 hf.2
  rw [← hw] at bd e1 e2 e3
  have fw : fi w := ⟨bd.1, bd.2, by omega⟩
  refine ⟨fw, ?_⟩
  have hr : w % 9223372036854775808 = e * 4503599627370496 + f := by rw [← e1, ← e2]; unfold F.exq F.fra; omega
  obtain ⟨j, hj⟩ : ∃ j : Nat, (j : Int) = e - 1 := ⟨(e - 1).toNat, by omega⟩
  have u := (U_of (k := j) (q := 4503599627370496 + f) (by omega) (by omega) (by omega)).1
  rw [show (j : Int) * 4503599627370496 + (4503599627370496 + f) = e * 4503599627370496 + f by omega, show (j : Int) - 1074 = e - 1075 by omega, ← sc_mul1] at u
  rw [val_eq fw, e3, hr, u]
theorem powers_p {x k mode p w : Int} (hm : 0 ≤ mode ∧ mode ≤ 4) (hx : 0 ≤ x ∧ x ≤ 18446744073709551615) (hc : F.cls x = 3) (hk : -1022 ≤ k) (hk' : k ≤ 1023) (he : 1 ≤ F.exq x + k) (he' : F.exq x + k ≤ 2046)
    (hp : p = (1023 + k) * 4503599627370496) (hw : w = F.mk (F.sgn x) (F.exq x + k) (F.fra x)) : MT x p mode = (w, false, 0) := by
  obtain ⟨K, hK⟩ : ∃ K : Nat, K = 60000 := ⟨_, rfl⟩
  have vp := pow_val hk hk' hp
  have fx : fi x := (fi_cls hx).2 (by omega)
  have hq := F.exq_bd x
  have hf := F.fra_bd x
  have h1 : 1 ≤ F.exq x ∧ F.exq x ≤ 2046 := by
    refine ⟨?_, by have := fx.2.2; omega⟩
    rcases Int.lt_or_eq_of_le hq.1 with h | h
    · omega
    · exfalso
      unfold F.cls at hc
      rw [if_pos h.symm] at hc
      split at hc <;> omega
  have vw := mk_val ⟨he, he'⟩ hf hw
  have vx := mk_val (s := F.sgn x) (w := x) h1 hf (F.mk_parts x hx.1 hx.2).symm
  have a := pd_p fx vp.1 hK
  have b := of_fit vw.1
  have e1 := sc_mul (m := 4503599627370496 + F.fra x) (n := 1) (x := F.exq x - 1075) (y := k) (by omega) (by omega) hK
  rw [Int.mul_one, show F.exq x - 1075 + k = F.exq x + k - 1075 by omega] at e1
  have ed : (PD x p).d = (OfD w).d := by
    refine S_inj a.2.1.ok b.2.ok (K_inj (K := K) ?_)
    rw [a.2.2, vp.2.1, vx.2]
    show _ = val w * 2 ^ K
    rw [vw.2]
    unfold sgm
    cases F.sgn x
    · simp; exact e1.symm
    · simp; rw [Int.neg_mul, Int.neg_mul, e1]
  have n3 : F.cls w ≠ 1 := by
    have ew := F.exq_mk (F.sgn x) (F.exq x + k) (F.fra x) (by omega) (by omega) hf.1 hf.2
    rw [← hw] at ew
    unfold F.cls
    rw [if_neg (by omega)]
    split <;> (try split) <;> omega
  have nb : (bc x p).2 = false := by
    rw [bc_no hx ⟨vp.1.1, vp.1.2.1⟩]
    refine ⟨fx, vp.1, fun h => ?_, fun h => ?_⟩
    · rw [val0 fx] at h; omega
    · rw [val0 vp.1] at h; omega
  rw [MT_fi hm nb, ed]
  have s := same_p vw.1.1 vw.1.2.1 vw.1.2.2 hm
  rw [s.2.1]
  rcases s.2.2 with h1 | ⟨-, rfl, -⟩
  · rw [eq_of_beq h1]
  · exact absurd (by decide) n3
/-- nothing is lost just if it is exact -/
theorem val_rx {b : Bool} {r : Int} (r0 : 0 ≤ r) (r1 : r ≤ 9218868437227405311) : fi (rx b r) ∧ val (rx b r) = sgm b (U r) := by
  have bd := rx_bd (b := b) r0 (show r ≤ 9218868437227405312 by omega)
  have hmod : rx b r % 9223372036854775808 = r ∧ F.sgn (rx b r) = b := by
    unfold rx F.neg F.sgn
    cases b
    · simp; omega
    · simp; rw [if_pos (by omega)]; omega
  have hf : fi (rx b r) := fi_of bd.1 bd.2.1 (by rw [hmod.1]; omega)
  exact ⟨hf, by rw [val_eq hf, hmod.1, hmod.2]⟩
theorem S_sg (d : Dy) : S d = sgm (ng d) (A d) ∧ 0 ≤ A d := by
  have a := A_abs d
  rcases Int.lt_or_le (S d) 0 with h | h
  · rw [(a.2 h).1, (a.2 h).2]; unfold sgm; simp; omega
  · rw [(a.1 h).1, (a.1 h).2]; unfold sgm; simp; omega
theorem exact_iff {d : Dy} {mode : Int} (hm : 0 ≤ mode ∧ mode ≤ 4) (h : Ok d) : TL d mode = false ↔ (fi (TX d mode) ∧ val (TX d mode) = S d) := by
  constructor
  · intro hl
    obtain ⟨r, hf, m, t, -⟩ := towA h
    rw [(TX_of h hm t).2.1] at hl
    have e1 : hf = false := by cases hf <;> simp_all
    have e2 : m = false := by cases m <;> simp_all
    have q1 := t.hh
    have q2 := t.hm
    rw [e1] at q1
    rw [e2] at q2
    have q1' := of_decide_eq_false q1.symm
    have q2' := of_decide_eq_false q2.symm
    have lo := t.lo
    have e : A d = U r := by
      rcases Classical.em (A d = U r) with h | h
      · exact h
      · exfalso; apply q2'; exact ⟨h, by omega⟩
    exact (exact_p hm h t.r0 t.r1 e).2
  · rintro ⟨f, hv⟩
    have hr := fi_mod f
    have ev := val_eq f
    have s := S_sg d
    have e : A d = U (TX d mode % 9223372036854775808) := by
      have hU := U_pos (r := TX d mode % 9223372036854775808) (by omega)
      rw [hv, s.1] at ev
      have s2 := s.2
      unfold sgm at ev
      split at ev <;> split at ev <;> omega
    exact (exact_p hm h (by omega) hr e).1
end PC
end Go.Proofs.YtpmjeipdldnnbaaDoor

/-
  Package prod, pure: Fma by one, by nothing more, and what is left of a product.
-/
namespace Go.Proofs.YtpmjeipdldnnbaaDoor
set_option linter.unusedVariables false
set_option linter.unusedSimpArgs false
open Go.RowKit
set_option linter.unusedVariables false
set_option linter.unusedSimpArgs false
namespace PC
open L NC NK DC RC SC
theorem FT_no {x y z mode : Int} (h : ¬ (0 ≤ mode ∧ mode ≤ 4)) : FT x y z mode = (0, false, 1) := by unfold FT; rw [if_pos h]
theorem FT_bc {x y z mode : Int} (hm : 0 ≤ mode ∧ mode ≤ 4) (h : (bc x y).2 = true) : FT x y z mode = AT [(bc x y).1, z] mode := by
  unfold FT; rw [if_neg (by simpa using hm), if_pos h]
theorem FT_nf {x y z mode : Int} (hm : 0 ≤ mode ∧ mode ≤ 4) (h : (bc x y).2 = false) (hz : F.exq z = 2047) : FT x y z mode = AT [0, z] mode := by
  unfold FT; rw [if_neg (by simpa using hm), if_neg (by rw [h]; simp), if_pos hz]
theorem FT_fi {x y z mode : Int} (hm : 0 ≤ mode ∧ mode ≤ 4) (h : (bc x y).2 = false) (hz : F.exq z ≠ 2047) : FT x y z mode = if (fd x y z).m = 0 ∧ mode = 2 then (9223372036854775808, false, 0) else (TX (fd x y z) mode, TL (fd x y z) mode, 0) := by
  unfold FT; rw [if_neg (by simpa using hm), if_neg (by rw [h]; simp), if_neg hz]
theorem fd_p {x y z : Int} (hx : fi x) (hy : fi y) (hz : fi z) : FitP (fd x y z) 2 ∧ S (fd x y z) = S (PD x y).d + val z := by
  have a := (pd_p hx hy rfl).2.1
  have b := fitP_of (of_fit hz).2
  have c := add_fitP a b (by omega)
  exact ⟨c.2.1, c.2.2⟩
theorem TX0 {d : Dy} {mode : Int} (hm : 0 ≤ mode ∧ mode ≤ 4) (h : Ok d) (h0 : S d = 0) : TX d mode = 0 ∧ TL d mode = false := by
  have a := (A_abs d).1 (by omega)
  have t : Tow (A d) 0 false false := by rw [a.1, h0]; exact tow_zero
  obtain ⟨e1, e2, -⟩ := TX_of h hm t
  rw [e1, e2, ry_none, a.2]
  exact ⟨rfl, rfl⟩
theorem AT_nan {x z mode : Int} (hm : 0 ≤ mode ∧ mode ≤ 4) (hx : 0 ≤ x ∧ x ≤ 18446744073709551615) (hz : 0 ≤ z ∧ z ≤ 18446744073709551615) (h : F.cls x = 5) : AT [x, z] mode = (9221120237041090560, false, 0) := by
  rw [AT_wv hm (by simp) (u2 hx hz) (fun hf => (cls_fi.2 (hf x (by simp)).2.2).1 h)]
  have : hN [x, z] = true := by simp [hN, h]
  rw [this]; rfl
theorem nfi {y : Int} (hy : fi y) : F.cls y ≠ 5 ∧ (y == 9218868437227405312) = false ∧ (y == 18442240474082181120) = false := by
  have := fi_mod hy
  refine ⟨(cls_fi.2 hy.2.2).1, ?_, ?_⟩ <;> rw [beq_eq_false_iff_ne] <;> rintro rfl <;> simp at this
theorem AT_nf {x z mode : Int} (hm : 0 ≤ mode ∧ mode ≤ 4) (hx : fi x) (hz : 0 ≤ z ∧ z ≤ 18446744073709551615) (h : F.exq z = 2047) : AT [x, z] mode = ((WV (F.cls z == 5) (z == 9218868437227405312) (z == 18442240474082181120)).1, false, 0) := by
  rw [AT_wv hm (by simp) (u2 ⟨hx.1, hx.2.1⟩ hz) (fun hf => (hf z (by simp)).2.2 h)]
  have n := nfi hx
  have e1 : hN [x, z] = (F.cls z == 5) := by simp [hN, n.1]
  have e2 : hP [x, z] = (z == 9218868437227405312) := by simp [hP]; intro h; rw [h] at n; simp at n
  have e3 : hM [x, z] = (z == 18442240474082181120) := by simp [hM]; intro h; rw [h] at n; simp at n
  rw [e1, e2, e3]
theorem FT_bd {x y z : Int} (mode : Int) (hx : 0 ≤ x ∧ x ≤ 18446744073709551615) (hy : 0 ≤ y ∧ y ≤ 18446744073709551615) (hz : 0 ≤ z ∧ z ≤ 18446744073709551615) : 0 ≤ (FT x y z mode).1 ∧ (FT x y z mode).1 ≤ 18446744073709551615 := by
  by_cases hm : 0 ≤ mode ∧ mode ≤ 4
  · cases h : (bc x y).2
    · obtain ⟨f, g, -⟩ := (bc_no hx hy).1 h
      by_cases hq : F.exq z = 2047
      · rw [FT_nf hm h hq]; exact AT_bd mode (u2 (by omega) hz)
      · rw [FT_fi hm h hq]
        split
        · exact ⟨by simp, by simp⟩
        · have := TX_bd (fd x y z) mode fun _ => (fd_p f g ⟨hz.1, hz.2, hq⟩).1.ok
          exact ⟨this.1, this.2.1⟩
    · rw [FT_bc hm h]; exact AT_bd mode (u2 (bc_bd x y) hz)
  · rw [FT_no hm]; exact ⟨by simp, by simp⟩
/-- times one it is the sum -/
theorem fused_one {x z mode O : Int} (hx : 0 ≤ x ∧ x ≤ 18446744073709551615) (hz : 0 ≤ z ∧ z ≤ 18446744073709551615) (hO : O = 4607182418800017408) : FT x O z mode = AT [x, z] mode := by
  by_cases hm : 0 ≤ mode ∧ mode ≤ 4
  · obtain ⟨K, hK⟩ : ∃ K : Nat, K = 60000 := ⟨_, rfl⟩
    have o := one_val hO hK
    have e := bc_one hx hO
    cases h : (bc x O).2
    · obtain ⟨f, -, h0, -⟩ := (bc_no hx ⟨o.1.1, o.1.2.1⟩).1 h
      by_cases hq : F.exq z = 2047
      · rw [FT_nf hm h hq, AT_nf hm val00.1 hz hq, AT_nf hm f hz hq]
      · have fz : fi z := ⟨hz.1, hz.2, hq⟩
        rw [FT_fi hm h hq]
        have a := fd_p f o.1 fz
        have e1 : S (PD x O).d = val x := by rw [pd_one f hO]; rfl
        rw [e1] at a
        have t := tot_ok (f2 f fz) (by simp)
        have v : vs [x, z] = val x + val z := by simp [vs]
        have ed : fd x O z = tot [x, z] dz := S_inj a.1.ok t.1 (by rw [a.2, t.2, v])
        have af := AT_fin hm (by simp) (f2 f fz)
        by_cases h1 : vs [x, z] = 0
        · rw [af.1 h1]
          have hm0 : (fd x O z).m = 0 := by rw [S_m', a.2, ← v]; exact h1
          have k := TX0 hm a.1.ok (by rw [a.2, ← v]; exact h1)
          have hsm : ¬ sm [x, z] = true := fun h => by
            obtain ⟨c, hc⟩ := sm_iff.1 h
            have e1 := hc x (by simp)
            have e2 := hc z (by simp)
            have hv : val x + val z = 0 := by rw [← v]; exact h1
            rw [e2, ← e1] at hv
            exact h0 (by omega)
          have hz : ZR [x, z] mode = if mode = 2 then 9223372036854775808 else 0 := by
            unfold ZR; rw [if_neg (by simp), if_neg hsm]
          rw [hz, k.1, k.2]
          by_cases hm2 : mode = 2
          · rw [if_pos ⟨hm0, hm2⟩, if_pos hm2]
          · rw [if_neg (fun h => hm2 h.2), if_neg hm2]
        · rw [af.2 h1, if_neg (fun h => h1 (by rw [v, ← a.2]; exact S_m'.1 h.1)), ed]
    · rw [FT_bc hm h, e]
      rw [e] at h
      by_cases h5 : F.cls x = 5
      · rw [if_pos h5, AT_nan hm hx hz h5, AT_nan hm (by omega) hz (by decide)]
      · rw [if_neg h5] at h ⊢
        by_cases h4 : F.cls x = 4 ∨ F.cls x = 1
        · rw [if_pos h4]
        · rw [if_neg h4] at h; cases h
  · rw [FT_no hm, AT_no hm]
/-- with nothing added -/
theorem fused_zero {x y mode : Int} (hm : 0 ≤ mode ∧ mode ≤ 4) (hx : 0 ≤ x ∧ x ≤ 18446744073709551615) (hy : 0 ≤ y ∧ y ≤ 18446744073709551615) :
    ∃ n q b, FT x y 0 mode = (n, b, 0) ∧ MT x y mode = (q, b, 0) ∧ (n = q ∨ (F.cls n = 1 ∧ F.cls q = 1)) := by
  cases h : (bc x y).2
  · obtain ⟨f, g, h0, h1⟩ := (bc_no hx hy).1 h
    have a := fd_p f g val00.1
    rw [val00.2, Int.add_zero] at a
    have b := (pd_p f g rfl).2.1.ok
    have ed : fd x y 0 = (PD x y).d := S_inj a.1.ok b a.2
    rw [FT_fi hm h (by decide), MT_fi hm h, ed, if_neg (fun k => pd_ne f g h0 h1 k.1)]
    exact ⟨_, _, _, rfl, rfl, .inl rfl⟩
  · rw [FT_bc hm h, MT_bc hm h]
    have k : (bc x y).1 = 9221120237041090560 ∨ (bc x y).1 = 9218868437227405312 ∨ (bc x y).1 = 18442240474082181120 ∨ (bc x y).1 = 0 ∨ (bc x y).1 = 9223372036854775808 := by
      unfold bc
      rcases sp2 x y with h | h <;> rw [h] <;> (repeat (first | split | simp))
    rcases k with h | h | h | h | h <;> rw [h]
    · rw [AT_nan hm (by omega) (by omega) (by decide)]; exact ⟨_, _, _, rfl, rfl, .inl rfl⟩
    · rw [AT_comm (by omega) (by omega), AT_nf hm val00.1 (by omega) (by decide)]; exact ⟨_, _, _, rfl, rfl, .inl (by decide)⟩
    · rw [AT_comm (by omega) (by omega), AT_nf hm val00.1 (by omega) (by decide)]; exact ⟨_, _, _, rfl, rfl, .inl (by decide)⟩
    · have v : vs [0, 0] = 0 := by simp [vs, val00.2]
      rw [(AT_fin hm (by simp) (f2 val00.1 val00.1)).1 v]
      exact ⟨_, _, _, rfl, rfl, .inr ⟨(ZR_cls mode (f2 val00.1 val00.1) v).1, by decide⟩⟩
    · have v : vs [9223372036854775808, 0] = 0 := by simp [vs, val00.2, val08.2]
      rw [(AT_fin hm (by simp) (f2 val08.1 val00.1)).1 v]
      exact ⟨_, _, _, rfl, rfl, .inr ⟨(ZR_cls mode (f2 val08.1 val00.1) v).1, by decide⟩⟩
/-- the unit of a number -/
theorem unit_ulp {x : Int} (h : fi x) : ∃ q : Int, 0 ≤ q ∧ q < 9007199254740992 ∧ val x = sgm (F.sgn x) (sc q (F.ulp x)) := by
  have hb := F.exq_bd x
  have hf := F.fra_bd x
  have h2 := h.2.2
  have hr : x % 9223372036854775808 = F.exq x * 4503599627370496 + F.fra x := by unfold F.exq F.fra; omega
  have mb : 0 ≤ mant x ∧ mant x < 9007199254740992 := by unfold mant; split <;> omega
  obtain ⟨k, hk⟩ : ∃ k : Nat, F.ulp x + 1074 = k := ⟨(F.ulp x + 1074).toNat, by unfold F.ulp; split <;> omega⟩
  have hkq : x % 9223372036854775808 = k * 4503599627370496 + mant x ∧ (k = 0 ∨ 4503599627370496 ≤ mant x) := by
    rw [hr]
    unfold F.ulp at hk
    unfold mant
    by_cases h : 0 < F.exq x
    · rw [if_pos h]; rw [if_pos (by omega)] at hk; exact ⟨by omega, by omega⟩
    · rw [if_neg h]; rw [if_neg (by omega)] at hk; exact ⟨by omega, by omega⟩
  have eU := (U_of mb.1 mb.2 hkq.2).1
  rw [← hkq.1, show (k : Int) - 1074 = F.ulp x by omega, ← sc_mul1] at eU
  exact ⟨_, mb.1, mb.2, by rw [val_eq h, eU]⟩
theorem ulp_bd {x : Int} (h : fi x) : -1074 ≤ F.ulp x ∧ F.ulp x ≤ 971 := by
  have := F.exq_bd x
  have := h.2.2
  unfold F.ulp; split <;> omega
theorem pd_unit {x y : Int} (hx : fi x) (hy : fi y) : ∃ N : Int, 0 ≤ N ∧ N < 81129638414606681695789005144064 ∧ A (PD x y).d = N * sc 1 (F.ulp x + F.ulp y) := by
  obtain ⟨K, hK⟩ : ∃ K : Nat, K = 60000 := ⟨_, rfl⟩
  have a := pd_p hx hy hK
  obtain ⟨p, p0, p1, ep⟩ := unit_ulp hx
  obtain ⟨q, q0, q1, eq⟩ := unit_ulp hy
  have u1 := ulp_bd hx
  have u2 := ulp_bd hy
  have e := sc_mul (m := p) (n := q) (x := F.ulp x) (y := F.ulp y) (by omega) (by omega) hK
  have hN : 0 ≤ p * q := Int.mul_nonneg p0 q0
  refine ⟨p * q, hN, ?_, ?_⟩
  · have := Int.mul_le_mul_of_nonneg_right (show p ≤ 9007199254740991 by omega) q0
    omega
  · rw [← sc_mul1]
    have hz : 0 ≤ sc (p * q) (F.ulp x + F.ulp y) := by rw [sc_mul1]; exact Int.mul_nonneg hN (Int.le_of_lt (sc_one_pos _))
    have eS : S (PD x y).d = sgm (F.sgn x != F.sgn y) (sc (p * q) (F.ulp x + F.ulp y)) := by
      apply K_inj (K := K)
      rw [a.2.2, ep, eq, ← sg_xor, ← e]
      unfold sgm
      cases (F.sgn x != F.sgn y)
      · simp
      · simp [Int.neg_mul]
    have s := S_sg (PD x y).d
    have s2 := s.2
    rw [s.1] at eS
    unfold sgm at eS
    split at eS <;> split at eS <;> omega
theorem two_le' {a b : Nat} (h : a ≤ b) : (2 : Int) ^ a ≤ 2 ^ b := by
  obtain ⟨k, rfl⟩ : ∃ k, b = a + k := ⟨b - a, by omega⟩
  rw [Int.pow_add]
  have h1 := two_pos' a
  have h2 := two_pos' k
  have h3 := Int.mul_le_mul_of_nonneg_left (show (1 : Int) ≤ 2 ^ k by omega) (Int.le_of_lt h1)
  omega
/-- what is left -/
theorem left_p {d : Dy} {mode b N : Int} (hm : 0 ≤ mode ∧ mode ≤ 4) (h : Ok d) (hb : -1074 ≤ b) (hN : 0 ≤ N) (hN2 : N < 81129638414606681695789005144064) (e : A d = N * sc 1 b) (hp : F.abs (TX d mode) < 9218868437227405311) :
    fi (TX d mode) ∧ ∃ r, 0 ≤ r ∧ r ≤ 9218868437227405311 ∧ (S d - val (TX d mode) = U r ∨ S d - val (TX d mode) = -U r) := by
  obtain ⟨M, hM⟩ : ∃ M : Int, M = 9218868437227405311 := ⟨_, rfl⟩
  rw [← hM] at hp ⊢
  obtain ⟨r, hf, m, t, -⟩ := towA h
  obtain ⟨x1, x2, -⟩ := TX_of h hm t
  have kb := ry_bd (b := ng d) t mode
  obtain ⟨y, hy⟩ : ∃ y, ry (ng d) r hf m mode = y := ⟨_, rfl⟩
  rw [hy] at kb x1
  have hmod : F.abs (rx (ng d) y) = y := by
    unfold rx F.neg F.abs
    cases ng d
    · simp; omega
    · simp; rw [if_pos (by omega)]; omega
  rw [x1, hmod] at hp
  have r0 := t.r0
  have v := val_rx (b := ng d) kb.1 (show y ≤ 9218868437227405311 by omega)
  have s := S_sg d
  rw [x1]
  refine ⟨v.1, ?_⟩
  rw [v.2, s.1]
  have hlo := t.lo
  have hhi := t.hi (by omega)
  have key : ∃ r', 0 ≤ r' ∧ r' ≤ M ∧ (A d - U y = U r' ∨ A d - U y = -U r') := by
    by_cases hA : A d = U r
    · refine ⟨0, by omega, by omega, .inl ?_⟩
      have tw := tow_exact (r := r) r0 (by omega)
      rw [← hA] at tw
      obtain ⟨-, e1, e2⟩ := t.unique tw
      rw [e1, e2, ry_none] at hy
      rw [← hy, U_zero]; omega
    · obtain ⟨k, q, rfl, q0, q1, hc⟩ := r_parts r0
      obtain ⟨g1, g2⟩ := U_of q0 q1 hc
      obtain ⟨i, hi⟩ : ∃ i : Nat, (i : Int) = b + 1074 := ⟨(b + 1074).toNat, by omega⟩
      have hbi : b = i - 1074 := by omega
      subst hbi
      have hU1 : U (k * 4503599627370496 + q + 1) ≤ U M := U_le (by omega) (by omega)
      have hEp := sc_one_pos ((k : Int) - 1074)
      have hBp := sc_one_pos ((i : Int) - 1074)
      rcases Nat.lt_or_ge i k with hik | hik
      · obtain ⟨j, hj⟩ : ∃ j : Nat, k = i + j := ⟨k - i, by omega⟩
        have eE : sc 1 ((k : Int) - 1074) = 2 ^ j * sc 1 ((i : Int) - 1074) := by
          rw [← sc_mul1, sc_two _ _ (by omega)]
          congr 1; omega
        have q2 : 4503599627370496 ≤ q := by omega
        obtain ⟨B, hB⟩ : ∃ B, sc 1 ((i : Int) - 1074) = B := ⟨_, rfl⟩
        have hP := two_pos' j
        have hj2 : (2 : Int) ^ j ≤ 9007199254740992 := by
          rcases Nat.lt_or_ge 53 j with h3 | h3
          · exfalso
            have a1 : (2 : Int) ^ 54 ≤ 2 ^ j := two_le' (by omega)
            have a2 := Int.mul_le_mul_of_nonneg_left a1 (show (0 : Int) ≤ 4503599627370496 by omega)
            have a3 := Int.mul_le_mul_of_nonneg_right q2 (Int.le_of_lt hP)
            rw [g1, eE, hB, e, hB, ← Int.mul_assoc] at hlo
            rw [hB] at hBp
            have a4 := Int.le_of_mul_le_mul_right hlo hBp
            have : (4503599627370496 : Int) * 2 ^ 54 = 81129638414606681695789005144064 := by decide
            omega
          · have : (2 : Int) ^ j ≤ 2 ^ 53 := two_le' h3
            exact this
        rw [hB] at eE hBp e
        have hAr : A d ≠ q * (2 ^ j * B) := by rw [← eE, ← g1]; exact hA
        rw [g1, eE] at hlo
        rw [g2, eE] at hhi hU1
        rw [e] at hlo hhi hAr
        generalize hPj : (2 : Int) ^ j = P at *
        have f1 : q * (P * B) = (q * P) * B := by rw [Int.mul_assoc]
        have f2' : (q + 1) * (P * B) = (q * P + P) * B := by rw [← Int.mul_assoc, Int.add_mul, Int.one_mul]
        rw [f1] at hlo hAr
        rw [f2'] at hhi hU1
        have l1 := Int.le_of_mul_le_mul_right hlo hBp
        have l2 := Int.lt_of_mul_lt_mul_right hhi (Int.le_of_lt hBp)
        have l3 : N ≠ q * P := fun h => hAr (by rw [h])
        have hPB : P * B ≤ (q * P + P) * B := by
          apply Int.mul_le_mul_of_nonneg_right _ (Int.le_of_lt hBp)
          have := Int.mul_nonneg q0 (Int.le_of_lt hP)
          omega
        have fin' : ∀ n : Int, 0 ≤ n → n < P → ∃ r', 0 ≤ r' ∧ r' ≤ M ∧ n * B = U r' := fun n n0 n1 => by
          have hn := Int.mul_le_mul_of_nonneg_right (show n ≤ P by omega) (Int.le_of_lt hBp)
          exact rank_of (N := n) (q := n) (k := i) hM hB.symm rfl n0 (Int.le_refl _) (by omega) (by omega)
        rcases (show y = k * 4503599627370496 + q ∨ y = k * 4503599627370496 + q + 1 by omega) with hyy | hyy
        · rw [hyy, g1, eE, f1, e, ← Int.sub_mul]
          obtain ⟨r', a, b, c⟩ := fin' (N - q * P) (by omega) (by omega)
          exact ⟨r', a, b, .inl c⟩
        · rw [hyy, g2, eE, f2', e, ← Int.sub_mul]
          obtain ⟨r', a, b, c⟩ := fin' (q * P + P - N) (by omega) (by omega)
          refine ⟨r', a, b, .inr ?_⟩
          rw [← c, ← Int.neg_mul]; congr 1; omega
      · exfalso
        obtain ⟨j, hj⟩ : ∃ j : Nat, i = k + j := ⟨i - k, by omega⟩
        have eE : sc 1 ((i : Int) - 1074) = 2 ^ j * sc 1 ((k : Int) - 1074) := by
          rw [← sc_mul1, sc_two _ _ (by omega)]
          congr 1; omega
        rw [eE, ← Int.mul_assoc] at e
        rw [g1, e] at hlo
        rw [g2, e] at hhi
        have l1 := Int.le_of_mul_le_mul_right hlo hEp
        have l2 := Int.lt_of_mul_lt_mul_right hhi (Int.le_of_lt hEp)
        apply hA
        rw [g1, e, show N * 2 ^ j = q by omega]
  obtain ⟨r', a, b, c⟩ := key
  refine ⟨r', a, b, ?_⟩
  unfold sgm
  cases ng d
  · simp; exact c
  · simp; omega
theorem rest_p {x y mode : Int} (hm : 0 ≤ mode ∧ mode ≤ 4) (fx : fi x) (fy : fi y) (hu : -1074 ≤ F.ulp x + F.ulp y) (hp : F.abs (MT x y mode).1 < 9218868437227405311) : ∃ a, FT x y (F.neg (MT x y mode).1) mode = (a, false, 0) := by
  have hx := And.intro fx.1 fx.2.1
  have hy := And.intro fy.1 fy.2.1
  cases h : (bc x y).2
  · rw [MT_fi hm h] at hp ⊢
    dsimp only at hp ⊢
    obtain ⟨N, n0, n1, e⟩ := pd_unit fx fy
    have a := (pd_p fx fy rfl).2.1.ok
    obtain ⟨f, r, r0, r1, hr⟩ := left_p hm a hu n0 n1 e hp
    have g := fi_neg f
    rw [FT_fi hm h g.2.2]
    have b := fd_p fx fy g
    rw [val_neg f] at b
    have ab := A_abs (fd x y (F.neg (TX (PD x y).d mode)))
    have hU := U_pos r0
    have eA : A (fd x y (F.neg (TX (PD x y).d mode))) = U r := by
      rw [b.2] at ab
      rcases Int.lt_or_le (S (PD x y).d + -val (TX (PD x y).d mode)) 0 with h1 | h1
      · rw [(ab.2 h1).1]; omega
      · rw [(ab.1 h1).1]; omega
    have el := (exact_p hm b.1.ok r0 r1 eA).1
    rw [el]
    split
    · exact ⟨_, rfl⟩
    · exact ⟨_, rfl⟩
  · rw [MT_bc hm h, FT_bc hm h]
    dsimp only
    have c1 := (fi_cls hx).1 fx
    have c2 := (fi_cls hy).1 fy
    have h3 : min (F.cls x) (F.cls y) = 1 := by
      rcases Classical.em (min (F.cls x) (F.cls y) = 1) with h3 | h3
      · exact h3
      · exfalso
        unfold bc at h
        rw [if_neg (by omega), if_neg (by omega), if_neg h3] at h
        cases h
    have e : bc x y = (sp x y, true) := by
      unfold bc
      rw [if_neg (by omega), if_neg (by omega), if_pos h3]
    rw [e]
    dsimp only
    have f : fi (sp x y) ∧ val (sp x y) = 0 := by
      rcases sp2 x y with h | h <;> rw [h]
      · exact val00
      · exact val08
    rw [(AT_fin hm (by simp) (f2 f.1 (fi_neg f.1))).1 (by simp [vs, val_neg f.1, f.2])]
    exact ⟨_, rfl⟩
end PC
end Go.Proofs.YtpmjeipdldnnbaaDoor

/-
  Package round: isDirection, nudge, Part.
-/
namespace Go.Proofs.YtpmjeipdldnnbaaDoor
set_option linter.unusedVariables false
set_option linter.unusedSimpArgs false
open Go.RowKit
set_option linter.unusedVariables false
set_option linter.unusedSimpArgs false
namespace RC
open L NC NK DC
open Z (Nz Tz cmpv)
/-- 0, 1 or -1 -/
def isdir (d : Dy) : Bool := decide (d.m = 0 ∨ (d.m.natAbs = 1 ∧ d.x = 0))
theorem isDirection_c (b : Bool) (A : Option Addr) (n c : Nat) (x : Int) (d : Dy) (w : World) (g : GV w b A n c x d) : Calls Tryd.prog 121 #[.agg #[.bool b, .slice A n c, .int .i64 x]] w (DC.RetB w (.bool (isdir d))) := by
  have hz := gv_zero g
  obtain ⟨⟨l, hs, Ll, nl, hl⟩, hb, hx, he, hc, hi⟩ := g
  subst hx
  obtain ⟨en, hcc⟩ := hs.len_
  have D0 := al1 w (.cells #[.bool b, .slice A n c, .int .i64 d.x] 35)
  obtain ⟨r, hr⟩ : ∃ r, isdir d = r := ⟨_, rfl⟩
  rw [hr]
  have hr' : r = decide (d.m = 0 ∨ (d.m.natAbs = 1 ∧ d.x = 0)) := hr.symm
  have HR := Lib.hid hr'
  have IZ : Hid (∀ W, Calls Tryd.prog 134 #[.agg #[.bool b, .slice A n c, .int .i64 d.x]] W (DC.RetB W (.bool (decide (n = 0))))) := fun W => isZero_c b A n c d.x W
  have X0 := BX.new w b A n c d.x
  obtain ⟨W0, hW0⟩ : ∃ W0, w.alloc (.cells #[.bool b, .slice A n c, .int .i64 d.x] 35) = W0 := ⟨_, rfl⟩
  rw [hW0] at X0 D0
  have KB : Hid (∀ W, Below W0.heap.size W0 W → BX W w.heap.size b A n c d.x) := fun W hW => X0.below hW
  have HW0 := Lib.hid hW0
  clear hr hr' hc hi hb he
  by_cases h0 : n = 0
  · have hm : d.m = 0 := hz.1 h0
    have HM := Lib.hid hm
    rw [show decide (n = 0) = true by simp [h0]] at IZ
    have D0 := Lib.hid D0
    clear hs Ll nl hl en hcc hz hm hW0 X0 h0
    go_enter Tryd.func121, Tryd.ntmps121
    go_wp2_with (first
      | (go_at_call 134; rw [HW0.out]; (with_reducible refine (IZ.out _).mono ?_); rintro e w2 ⟨rfl, hb0⟩; have D := Lib.hid hb0))
    go_ret
    exact ⟨ret_bool (by rw [HR.out, HM.out]; simp), D0.out.trans (D.out.mono D0.out.size)⟩
  · rw [show decide (n = 0) = false by simp [h0]] at IZ
    have hm : d.m ≠ 0 := fun h => h0 (hz.2 h)
    by_cases h1 : n = 1
    · obtain ⟨ad, c', e, hc', hb', hcell⟩ := hs.at_ 0 (by omega)
      injection e with e1 e2 e3
      subst e1
      rw [show ad.add 0 = ad from rfl] at hcell
      obtain ⟨y, hy⟩ : ∃ y, l.getD 0 0 = y := ⟨_, rfl⟩
      rw [hy] at hcell
      have hly : lv l = y := by
        match l, en, hy with
        | [a], _, hy => rw [← hy]; simp [lv]
        | [], en, _ => simp at en; omega
        | a :: a' :: t, en, _ => simp at en; omega
      have KC : Hid (∀ W, Below w.heap.size w W → W.cell? ad = some (.int .u32 y)) := fun W hW => (hW.cell hb').trans hcell
      have HM : Hid (d.m ≠ 0 ∧ (d.m.natAbs : Int) = y) := ⟨hm, by rw [← hl, hly]⟩
      have D0 := Lib.hid D0
      subst h1
      clear hs Ll nl hl hcc hz hm hW0 X0 h0 hcell hb' hc' hly hy e2 e3 en
      by_cases h2 : y = 1
      · have t1 : (y == 1) = true := by simp [h2]
        have HY := Lib.hid h2
        by_cases h3 : d.x = 0
        · have t2 : (d.x == 0) = true := by simp [h3]
          have H3 := Lib.hid h3
          clear h2 h3
          go_enter Tryd.func121, Tryd.ntmps121
          go_wp2_with (first
            | (go_at_call 134; rw [HW0.out]; (with_reducible refine (IZ.out _).mono ?_); rintro e w2 ⟨rfl, hb0⟩; have D := Lib.hid hb0; obtain ⟨p0, p1, p2⟩ := KB.out _ D.out; have kc := KC.out _ (D0.out.trans (D.out.mono D0.out.size))))
          go_ret
          exact ⟨ret_bool (by obtain ⟨a, b⟩ := HM.out; rw [HR.out]; have := HY.out; have := H3.out; symm; simp; omega), D0.out.trans (D.out.mono D0.out.size)⟩
        · have t2 : (d.x == 0) = false := by simp [h3]
          have H3 := Lib.hid h3
          clear h2 h3
          go_enter Tryd.func121, Tryd.ntmps121
          go_wp2_with (first
            | (go_at_call 134; rw [HW0.out]; (with_reducible refine (IZ.out _).mono ?_); rintro e w2 ⟨rfl, hb0⟩; have D := Lib.hid hb0; obtain ⟨p0, p1, p2⟩ := KB.out _ D.out; have kc := KC.out _ (D0.out.trans (D.out.mono D0.out.size))))
          go_ret
          exact ⟨ret_bool (by obtain ⟨a, b⟩ := HM.out; rw [HR.out]; have := HY.out; have := H3.out; symm; simp; omega), D0.out.trans (D.out.mono D0.out.size)⟩
      · have t1 : (y == 1) = false := by simp [h2]
        have HY := Lib.hid h2
        clear h2
        go_enter Tryd.func121, Tryd.ntmps121
        go_wp2_with (first
          | (go_at_call 134; rw [HW0.out]; (with_reducible refine (IZ.out _).mono ?_); rintro e w2 ⟨rfl, hb0⟩; have D := Lib.hid hb0; obtain ⟨p0, p1, p2⟩ := KB.out _ D.out; have kc := KC.out _ (D0.out.trans (D.out.mono D0.out.size))))
        go_ret
        exact ⟨ret_bool (by obtain ⟨a, b⟩ := HM.out; rw [HR.out]; have := HY.out; symm; simp; omega), D0.out.trans (D.out.mono D0.out.size)⟩
    · have t1 : ((n : Int) == 1) = false := by simp; omega
      have hbig : (1 : Int) < (d.m.natAbs : Int) := by
        have h2 : l ≠ [] := by rintro rfl; exact h0 en
        have := lv_ge Ll nl h2
        have h3 : (4294967296 : Int) ^ 1 ≤ 4294967296 ^ (l.length - 1) := pow_mono (by omega)
        rw [hl] at this
        omega
      have HM := Lib.hid hbig
      have D0 := Lib.hid D0
      clear hs Ll nl hl en hcc hz hm hW0 X0 h0 h1 hbig
      go_enter Tryd.func121, Tryd.ntmps121
      go_wp2_with (first
        | (go_at_call 134; rw [HW0.out]; (with_reducible refine (IZ.out _).mono ?_); rintro e w2 ⟨rfl, hb0⟩; have D := Lib.hid hb0; obtain ⟨p0, p1, p2⟩ := KB.out _ D.out))
      go_ret
      exact ⟨ret_bool (by rw [HR.out]; have := HM.out; symm; simp; omega), D0.out.trans (D.out.mono D0.out.size)⟩
/-- nudged -/
def nz (b1 b2 : Bool) (z1 z2 : Int) : Int := if z2 = 0 then z1 else if z1 = 0 then 1 else if b1 = b2 then z1 * 18446744073709551616 + 1 else z1 * 18446744073709551616 - 1
def nx (z1 z2 x : Int) : Int := if z2 = 0 then x else if z1 = 0 then -10000 else x - 64
def nb (b1 b2 : Bool) (z1 z2 : Int) : Bool := if z2 = 0 then b1 else if z1 = 0 then b2 else b1
def RetN (w : World) (b : Bool) (z x : Int) (e : Ending) (w' : World) : Prop := ∃ A n c, e = .returned (.agg #[.bool b, .slice A n c, .int .i64 x]) ∧ PV w' (.slice A n c) 0 z ∧ Below w.heap.size w w'
theorem pv_set3 {w1 : World} {u : Value} {er z : Int} {b0 : Bool} {A0 : Option Addr} {n0 c0 : Nat} {x0 : Int} {B : Nat} (hv : PV w1 u er z)
    (hblk : Blk w1 B 35 #[.bool b0, .slice A0 n0 c0, .int .i64 x0]) (v0 v1 v2 : Value) :
    PV (((w1.setCell ⟨B, 0, none⟩ v0).setCell ⟨B, 1, none⟩ v1).setCell ⟨B, 2, none⟩ v2) u er z := by
  obtain ⟨l, h1, h2⟩ := hv
  have s1 := h1.setCell (hblk.at_ 0 rfl) (fun z h => by cases h) v0
  have B1 := hblk.set_ 0 v0
  have s2 := s1.setCell (u := .slice A0 n0 c0) (B1.at_ 1 (by simp)) (fun z h => by cases h) v1
  have B2 := B1.set_ 1 v1
  exact ⟨l, s2.setCell (u := .int .i64 x0) (B2.at_ 2 (by simp)) (fun z h => by cases h) v2, h2⟩
theorem pv_zero {w : World} {A : Option Addr} {n c : Nat} {z : Int} (h : PV w (.slice A n c) 0 z) : n = 0 ↔ z = 0 := by
  constructor
  · rintro rfl
    obtain ⟨l, l1, l2, l3, l4⟩ := h.nv
    have en := l1.len_.1
    have := List.length_eq_zero_iff.1 en.symm
    rw [this] at l4
    exact l4.symm
  · rintro rfl
    exact NV.zero h.nv
set_option maxRecDepth 100000 in
theorem nudge_c (b1 b2 : Bool) (A1 A2 : Option Addr) (n1 c1 n2 c2 : Nat) (x1 x2 z1 z2 : Int) (w : World) (h1 : PV w (.slice A1 n1 c1) 0 z1) (h2 : PV w (.slice A2 n2 c2) 0 z2) (hs : z1 < 4294967296 ^ 390) (hz2 : z2 = 0 ∨ z2 = 1) (hx : -10000 ≤ x1 ∧ x1 ≤ 10000) :
    Calls Tryd.prog 122 #[.agg #[.bool b1, .slice A1 n1 c1, .int .i64 x1], .agg #[.bool b2, .slice A2 n2 c2, .int .i64 x2]] w (RetN w (nb b1 b2 z1 z2) (nz b1 b2 z1 z2) (nx z1 z2 x1)) := by
  obtain ⟨W0, hW0, D0, KB⟩ := box3 w b1 b2 A1 A2 n1 c1 n2 c2 x1 x2
  have Z1 : Hid (∀ W, Calls Tryd.prog 134 #[.agg #[.bool b1, .slice A1 n1 c1, .int .i64 x1]] W (DC.RetB W (.bool (decide (n1 = 0))))) := fun W => isZero_c b1 A1 n1 c1 x1 W
  have Z2 : Hid (∀ W, Calls Tryd.prog 134 #[.agg #[.bool b2, .slice A2 n2 c2, .int .i64 x2]] W (DC.RetB W (.bool (decide (n2 = 0))))) := fun W => isZero_c b2 A2 n2 c2 x2 W
  have P1 : Hid (∀ W, Below W0.heap.size W0 W → PV W (.slice A1 n1 c1) 0 z1) := fun W hW => (h1.below D0).below hW
  have P2 : Hid (∀ W, Below W0.heap.size W0 W → PV W (.slice A2 n2 c2) 0 z2) := fun W hW => (h2.below D0).below hW
  have e1 := pv_zero h1
  have e2 := pv_zero h2
  have s1 := h1.small.1
  have KB := Lib.hid KB
  have D0 := Lib.hid D0
  have HW0 := Lib.hid hW0
  unfold nb nz nx
  by_cases k2 : z2 = 0
  · rw [if_pos k2, if_pos k2, if_pos k2]
    rw [show decide (n2 = 0) = true by simp [e2.2 k2]] at Z2
    clear hW0 h1 h2 hs hz2 hx e1 e2 s1 k2
    go_enter Tryd.func122, Tryd.ntmps122
    go_wp2_with (first
      | (go_at_call 134; rw [HW0.out]; (with_reducible refine (Z2.out _).mono ?_); rintro e w2 ⟨rfl, hb0⟩; have D := Lib.hid hb0; obtain ⟨⟨⟨p0, p1, p2⟩, q0, q1, q2⟩, R2⟩ := KB.out _ D.out; have t0 := R2.at_ 0 rfl; have t1 := R2.at_ 1 rfl; have t2 := R2.at_ 2 rfl; have f0 := R2.frozen 0; have f1 := R2.frozen 1; have f2 := R2.frozen 2; have R2 := Lib.hid R2))
    exact bodyPost_ret (v := .agg #[.bool b1, .slice A1 n1 c1, .int .i64 x1]) (by simp [results, Tryd.results122, go_sem, t0, t1, t2]) rfl
      ⟨_, _, _, rfl, pv_set3 (P1.out _ D.out) R2.out _ _ _, below3 (D0.out.trans (D.out.mono D0.out.size)) (by omega) _ _ _⟩
  · rw [if_neg k2, if_neg k2, if_neg k2]
    have k3 : z2 = 1 := by omega
    subst k3
    rw [show decide (n2 = 0) = false by simp; exact fun h => k2 (e2.1 h)] at Z2
    by_cases k1 : z1 = 0
    · rw [if_pos k1, if_pos k1, if_pos k1]
      rw [show decide (n1 = 0) = true by simp [e1.2 k1]] at Z1
      clear hW0 h1 h2 hs hz2 hx e1 e2 s1 k1 k2
      go_enter Tryd.func122, Tryd.ntmps122
      go_wp2_with (first
        | (go_at_call 134; rw [HW0.out]; (with_reducible refine (Z2.out _).mono ?_); rintro e w2 ⟨rfl, hb0⟩; have D := Lib.hid hb0; obtain ⟨⟨⟨p0, p1, p2⟩, q0, q1, q2⟩, R2⟩ := KB.out _ D.out)
        | (go_at_call 134; (with_reducible refine (Z1.out _).mono ?_); rintro e w3 ⟨rfl, hb0⟩; have D := Lib.hid (D.out.trans (hb0.mono D.out.size)); obtain ⟨⟨⟨p0, p1, p2⟩, q0, q1, q2⟩, R2⟩ := KB.out _ D.out; have t0 := R2.at_ 0 rfl; have t1 := R2.at_ 1 rfl; have t2 := R2.at_ 2 rfl; have f0 := R2.frozen 0; have f1 := R2.frozen 1; have f2 := R2.frozen 2; have R2 := Lib.hid R2))
      exact bodyPost_ret (v := .agg #[.bool b2, .slice A2 n2 c2, .int .i64 (-10000)]) (by simp [results, Tryd.results122, go_sem, t0, t1, t2]) rfl
        ⟨_, _, _, rfl, pv_set3 (P2.out _ D.out) R2.out _ _ _, below3 (D0.out.trans (D.out.mono D0.out.size)) (by omega) _ _ _⟩
    · rw [if_neg k1, if_neg k1, if_neg k1]
      rw [show decide (n1 = 0) = false by simp; exact fun h => k1 (e1.1 h)] at Z1
      have i1 : IntKind.i64.wrap (x1 - 64) = x1 - 64 := IntWalk.i64_in _ (by omega)
      have hbig : 0 < z1 * 18446744073709551616 ∧ z1 * 18446744073709551616 + 1 < 4294967296 ^ 400 := by
        have h3 : (4294967296 : Int) ^ 392 = 4294967296 ^ 390 * 18446744073709551616 := by rw [show (18446744073709551616 : Int) = 4294967296 ^ 2 by decide, ← Int.pow_add]
        have h4 : (4294967296 : Int) ^ 393 = 4294967296 ^ 392 * 4294967296 := Int.pow_succ _ _
        have h5 : (4294967296 : Int) ^ 393 ≤ 4294967296 ^ 400 := pow_mono (by decide)
        have h6 := pow_pos 390
        generalize (4294967296 : Int) ^ 400 = c400 at *
        generalize (4294967296 : Int) ^ 393 = c393 at *
        generalize (4294967296 : Int) ^ 392 = c392 at *
        generalize (4294967296 : Int) ^ 390 = c390 at *
        omega
      have SH : Hid (∀ W, Below W0.heap.size W0 W → Calls Tryd.prog 51 #[.slice A1 n1 c1, .int .i64 64] W (RetSh W 0 (z1 * 18446744073709551616) false)) := fun W hW => by
        have := sh_up (P1.out W hW) 64 (by omega)
        rw [show (2 : Int) ^ 64 = 18446744073709551616 by decide] at this
        exact this
      obtain ⟨zz, hzz⟩ : ∃ zz, z1 * 18446744073709551616 = zz := ⟨_, rfl⟩
      rw [hzz] at hbig SH ⊢
      have ez : erz zz = 0 := if_pos (by omega)
      have AD : Hid (∀ W A n c, Below W0.heap.size W0 W → NV W (.slice A n c) zz → Calls Tryd.prog 123 #[.slice A n c, .slice A2 n2 c2] W (RetP W 0 (zz + 1))) := fun W A n c hW hv => by
        have q1 := hv.pv (Int.lt_of_lt_of_le (show zz < 4294967296 ^ 400 by omega) p400_big)
        rw [ez] at q1
        exact Add_p q1 (P2.out W hW)
      have SB : Hid (∀ W A n c, Below W0.heap.size W0 W → NV W (.slice A n c) zz → Calls Tryd.prog 71 #[.slice A n c, .slice A2 n2 c2] W (RetP W 0 (zz - 1))) := fun W A n c hW hv => by
        have q1 := hv.pv (Int.lt_of_lt_of_le (show zz < 4294967296 ^ 400 by omega) p400_big)
        rw [ez] at q1
        have := Sub_p q1 (P2.out W hW)
        have e3 : es 0 0 zz 1 = 0 := by
          unfold es
          rw [if_pos (show ee 0 0 = 0 by decide), if_neg (show ¬ zz < 1 by omega)]
        rw [e3, if_pos rfl] at this
        exact this
      have ez1 : erz (zz + 1) = 0 := if_pos hbig.2
      have ez2 : erz (zz - 1) = 0 := if_pos (by omega)
      have EZ := Lib.hid (And.intro ez1 ez2)
      clear hW0 h1 h2 hs hz2 hx e1 e2 s1 k1 k2 hbig ez ez1 ez2 hzz
      cases b1 <;> cases b2
      all_goals (
        go_enter Tryd.func122, Tryd.ntmps122
        go_wp2_with (first
          | (go_at_call 134; rw [HW0.out]; (with_reducible refine (Z2.out _).mono ?_); rintro e w2 ⟨rfl, hb0⟩; have D := Lib.hid hb0; obtain ⟨⟨⟨p0, p1, p2⟩, q0, q1, q2⟩, R2⟩ := KB.out _ D.out)
          | (go_at_call 134; (with_reducible refine (Z1.out _).mono ?_); rintro e w3 ⟨rfl, hb0⟩; have D := Lib.hid (D.out.trans (hb0.mono D.out.size)); obtain ⟨⟨⟨p0, p1, p2⟩, q0, q1, q2⟩, R2⟩ := KB.out _ D.out)
          | (go_at_call 51; (with_reducible refine (SH.out _ D.out).mono ?_); rintro e w4 ⟨A4, n4, c4, rfl, hv4, hb0⟩; have D := Lib.hid (D.out.trans (hb0.mono D.out.size)); obtain ⟨⟨⟨p0, p1, p2⟩, q0, q1, q2⟩, R2⟩ := KB.out _ D.out)
          | (go_at_call 123; (with_reducible refine (AD.out _ _ _ _ D.out hv4).mono ?_); rintro e w5 ⟨A5, n5, c5, rfl, hp5, hv5, hb0⟩; have D := Lib.hid (D.out.trans (hb0.mono D.out.size)); rw [EZ.out.1] at hp5; obtain ⟨⟨⟨p0, p1, p2⟩, q0, q1, q2⟩, R2⟩ := KB.out _ D.out; have t0 := R2.at_ 0 rfl; have t1 := R2.at_ 1 rfl; have t2 := R2.at_ 2 rfl; have f0 := R2.frozen 0; have f1 := R2.frozen 1; have f2 := R2.frozen 2; have R2 := Lib.hid R2)
          | (go_at_call 71; (with_reducible refine (SB.out _ _ _ _ D.out hv4).mono ?_); rintro e w5 ⟨A5, n5, c5, rfl, hp5, hv5, hb0⟩; have D := Lib.hid (D.out.trans (hb0.mono D.out.size)); rw [EZ.out.2] at hp5; obtain ⟨⟨⟨p0, p1, p2⟩, q0, q1, q2⟩, R2⟩ := KB.out _ D.out; have t0 := R2.at_ 0 rfl; have t1 := R2.at_ 1 rfl; have t2 := R2.at_ 2 rfl; have f0 := R2.frozen 0; have f1 := R2.frozen 1; have f2 := R2.frozen 2; have R2 := Lib.hid R2))
        exact bodyPost_ret (v := .agg #[.bool _, .slice A5 n5 c5, .int .i64 (x1 - 64)]) (by simp [results, Tryd.results122, go_sem, t0, t1, t2]) rfl
          ⟨_, _, _, rfl, pv_set3 hp5 R2.out _ _ _, below3 (D0.out.trans (D.out.mono D0.out.size)) (by omega) _ _ _⟩)
end RC
end Go.Proofs.YtpmjeipdldnnbaaDoor

