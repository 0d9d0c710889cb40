/-
  Texts glued together for a claim: R4 R5 R6 R10 R7 R8 R9 DK1.
-/
import Derived.Test.YtnlgkhgighhfjaaDoorG4
/-
  Package round: toward0.
-/
namespace Go.Proofs.YtnlgkhgighhfjaaDoor
set_option linter.unusedVariables false
set_option linter.unusedSimpArgs false
open Go.RowKit
set_option linter.unusedVariables false
namespace RC
open L NC NK DC
open Z (Nz Tz cmpv)
theorem bits_ex : ∀ (f : Nat) (z : Int), 0 < z → z < 2 ^ f → ∃ k : Nat, k ≤ f ∧ 0 < k ∧ z < 2 ^ k ∧ 2 ^ (k - 1) ≤ z := by
  intro f
  induction f with
  | zero => intro z h0 h1; simp at h1; omega
  | succ f ih =>
    intro z h0 h1
    by_cases h : z < 2 ^ f
    · obtain ⟨k, a, b⟩ := ih z h0 h
      exact ⟨k, by omega, b⟩
    · exact ⟨f + 1, by omega, by omega, h1, by simp; omega⟩
theorem Bits_k {u : Value} {z : Int} {w : World} {k : Nat} (h : PV w u 0 z) (h1 : z < 2 ^ k) (h2 : 2 ^ (k - 1) ≤ z) (h0 : 0 < k) : Calls Tryd.prog 112 #[u] w (fun e w' => e = .returned (.tuple #[.int .i64 k, .int .i64 0]) ∧ w = w') := by
  refine (bits_p h).mono ?_
  rintro e w' ⟨n, rfl, h3, h4, -, rfl⟩
  obtain ⟨h5, h6⟩ := h4.out rfl
  have hz : 0 < z := by have := two_pos' (k - 1); omega
  have e : n = k := by
    rcases h6 with rfl | h6
    · simp at h5; omega
    · have a1 := two_lt (Int.lt_of_le_of_lt h6 h1)
      have a2 := two_lt (Int.lt_of_le_of_lt h2 h5)
      have n0 : n ≠ 0 := by rintro rfl; simp at h5; omega
      omega
  rw [e]
  exact ⟨rfl, rfl⟩
/-- behind the box of a Dyad and a rest's cell -/
theorem tbox (w : World) (b1 : Bool) (A1 : Option Addr) (n1 c1 : Nat) (x1 : Int) :
    ∃ W0, (w.alloc (.cells #[.bool b1, .slice A1 n1 c1, .int .i64 x1] 25)).alloc (.cells #[.bool false, .bool false] 105) = W0 ∧ Below w.heap.size w W0 ∧
    (∀ W, Below W0.heap.size W0 W → BX W w.heap.size b1 A1 n1 c1 x1 ∧ Blk W (w.heap.size + 1) 105 #[.bool false, .bool false]) := by
  obtain ⟨N1, N2, NS, NB⟩ := new2 w 25 105 #[.bool b1, .slice A1 n1 c1, .int .i64 x1] #[.bool false, .bool false] 0
  rw [World.drewN_zero] at N1 N2 NS NB
  exact ⟨_, rfl, NB, fun W h => ⟨BX.of (N1.below h N1.lt), N2.below h N2.lt⟩⟩
set_option maxRecDepth 100000 in
theorem toward0_z (b : Bool) (A : Option Addr) (c : Nat) (x : Int) (w : World) :
    Calls Tryd.prog 103 #[.agg #[.bool b, .slice A 0 c, .int .i64 x]] w (DC.RetB w (.tuple #[.int .u64 0, .agg #[.bool false, .bool false]])) := by
  obtain ⟨W0, hW0, D0, KB⟩ := tbox w b A 0 c x
  have IZ : Hid (∀ W, Calls Tryd.prog 80 #[.agg #[.bool b, .slice A 0 c, .int .i64 x]] W (DC.RetB W (.bool true))) := fun W => by
    have := isZero_c b A 0 c x W
    rwa [show decide (0 = 0) = true from rfl] at this
  have KB := Lib.hid KB
  have D0 := Lib.hid D0
  have HW0 := Lib.hid hW0
  clear hW0
  go_enter Tryd.func103, Tryd.ntmps103
  go_wp2_with (first
    | (go_at_call 80; rw [HW0.out]; (with_reducible refine (IZ.out _).mono ?_); rintro e w2 ⟨rfl, hb0⟩; have D := Lib.hid hb0; obtain ⟨⟨p0, p1, p2⟩, R2⟩ := KB.out _ D.out; have t0 := R2.at_ 0 rfl; have t1 := R2.at_ 1 rfl; have f0 := R2.frozen 0; have f1 := R2.frozen 1; have R2 := Lib.hid R2))
  exact bodyPost_ret (v := .tuple #[.int .u64 0, .agg #[.bool false, .bool false]]) (by simp [results, Tryd.results103, go_sem, t0, t1]) rfl
    ⟨rfl, below2 (D0.out.trans (D.out.mono D0.out.size)) (by omega) _ _⟩
set_option maxRecDepth 100000 in
theorem toward0_far (b : Bool) (A : Option Addr) (n c : Nat) (x z : Int) (k : Nat) (w : World) (h : PV w (.slice A n c) 0 z) (hn : n ≠ 0) (h1 : z < 2 ^ k) (h2 : 2 ^ (k - 1) ≤ z) (h0 : 0 < k) (hk : k ≤ 12800) (hx : -20000 ≤ x ∧ x ≤ 20000) (ht : 1024 < k + x) :
    Calls Tryd.prog 103 #[.agg #[.bool b, .slice A n c, .int .i64 x]] w (DC.RetB w (.tuple #[.int .u64 9218868437227405311, .agg #[.bool true, .bool true]])) := by
  obtain ⟨W0, hW0, D0, KB⟩ := tbox w b A n c x
  have IZ : Hid (∀ W, Calls Tryd.prog 80 #[.agg #[.bool b, .slice A n c, .int .i64 x]] W (DC.RetB W (.bool false))) := fun W => by
    have := isZero_c b A n c x W
    rwa [show decide (n = 0) = false by simp [hn]] at this
  have BT : Hid (∀ W, Below W0.heap.size W0 W → Calls Tryd.prog 112 #[.slice A n c] W (fun e w' => e = .returned (.tuple #[.int .i64 k, .int .i64 0]) ∧ W = w')) := fun W hW => Bits_k ((h.below D0).below hW) h1 h2 h0
  have i1 : IntKind.i64.wrap ((k : Int) + x) = k + x := IntWalk.i64_in _ (by omega)
  obtain ⟨T, hT⟩ : ∃ T, (k : Int) + x = T := ⟨_, rfl⟩
  rw [hT] at i1 ht
  rw [← hT] at i1
  have HT := Lib.hid hT
  have KB := Lib.hid KB
  have D0 := Lib.hid D0
  have HW0 := Lib.hid hW0
  have ht' : (k : Int) + x > 1024 := by omega
  clear hW0 h hn h1 h2 h0 hk hx hT ht
  go_enter Tryd.func103, Tryd.ntmps103
  go_wp2_with (first
    | (go_at_call 80; rw [HW0.out]; (with_reducible refine (IZ.out _).mono ?_); rintro e w2 ⟨rfl, hb0⟩; have D := Lib.hid hb0; obtain ⟨⟨p0, p1, p2⟩, R2⟩ := KB.out _ D.out; have t0 := R2.at_ 0 rfl; have t1 := R2.at_ 1 rfl; have f0 := R2.frozen 0; have f1 := R2.frozen 1; have R2 := Lib.hid R2)
    | (go_at_call 112; (with_reducible refine (BT.out _ D.out).mono ?_); rintro e w3 ⟨rfl, rfl⟩))
  exact bodyPost_ret (v := .tuple #[.int .u64 9218868437227405311, .agg #[.bool true, .bool true]]) (by simp [results, Tryd.results103, go_sem, t0, t1]) rfl
    ⟨rfl, below2 (D0.out.trans (D.out.mono D0.out.size)) (by omega) _ _⟩
set_option maxRecDepth 100000 in
theorem toward0_near (b : Bool) (A : Option Addr) (n c : Nat) (x z u : Int) (k : Nat) (w : World) (h : PV w (.slice A n c) 0 z) (hn : n ≠ 0) (h1 : z < 2 ^ k) (h2 : 2 ^ (k - 1) ≤ z) (h0 : 0 < k) (hk : k ≤ 12800) (hx : -20000 ≤ x ∧ x ≤ 20000) (ht : k + x ≤ 1024) (hu : u = max (k + x - 53) (-1074))
    (q : Int) (hf m : Bool) (hq : 0 ≤ q ∧ q < 9007199254740992) (hT : TabD w)
    (SP : ∀ W, Below w.heap.size w W → Calls Tryd.prog 81 #[.slice A n c, .int .i64 (x - u)] W (RetSp W q hf m)) :
    Calls Tryd.prog 103 #[.agg #[.bool b, .slice A n c, .int .i64 x]] w (DC.RetB w (.tuple #[.int .u64 ((u + 1074) * 4503599627370496 + q), .agg #[.bool hf, .bool m]])) := by
  obtain ⟨W0, hW0, D0, KB⟩ := tbox w b A n c x
  have IZ : Hid (∀ W, Calls Tryd.prog 80 #[.agg #[.bool b, .slice A n c, .int .i64 x]] W (DC.RetB W (.bool false))) := fun W => by
    have := isZero_c b A n c x W
    rwa [show decide (n = 0) = false by simp [hn]] at this
  have BT : Hid (∀ W, Below W0.heap.size W0 W → Calls Tryd.prog 112 #[.slice A n c] W (fun e w' => e = .returned (.tuple #[.int .i64 k, .int .i64 0]) ∧ W = w')) := fun W hW => Bits_k ((h.below D0).below hW) h1 h2 h0
  have SP : Hid (∀ W, Below W0.heap.size W0 W → Calls Tryd.prog 81 #[.slice A n c, .int .i64 (x - u)] W (RetSp W q hf m)) := fun W hW => SP W (D0.trans (hW.mono D0.size))
  have WD : Hid (∀ (W : World) A n c, NV W (.slice A n c) q → Calls Tryd.prog 115 #[.slice A n c] W (fun e w' => e = .returned (.int .u64 q) ∧ W = w')) := fun W A n c hv => word_c A n c q W hv (by omega)
  have i1 : IntKind.i64.wrap ((k : Int) + x) = k + x := IntWalk.i64_in _ (by omega)
  have i2 : IntKind.i64.wrap ((k : Int) + x - 52) = k + x - 52 := IntWalk.i64_in _ (by omega)
  have i3 : IntKind.i64.wrap ((k : Int) + x - 52 - 1) = k + x - 52 - 1 := IntWalk.i64_in _ (by omega)
  have i4 : IntKind.i64.wrap (x - u) = x - u := IntWalk.i64_in _ (by omega)
  have hu2 : max ((k : Int) + x - 52 - 1) (-1074) = u := by omega
  have ub : -1074 ≤ u ∧ u ≤ 971 := by omega
  have ht' : ¬ (k : Int) + x > 1024 := by omega
  have KB := Lib.hid KB
  have D0 := Lib.hid D0
  have HW0 := Lib.hid hW0
  obtain ⟨T, hT⟩ : ∃ T, (k : Int) + x = T := ⟨_, rfl⟩
  clear hW0 h hn h1 h2 h0 hk hx hT ht hu
  go_enter Tryd.func103, Tryd.ntmps103
  go_upto_region 9 with (first
    | (go_at_call 80; rw [HW0.out]; (with_reducible refine (IZ.out _).mono ?_); rintro e w2 ⟨rfl, hb0⟩; have D := Lib.hid hb0; obtain ⟨⟨p0, p1, p2⟩, R2⟩ := KB.out _ D.out; have t0 := R2.at_ 0 rfl; have t1 := R2.at_ 1 rfl; have f0 := R2.frozen 0; have f1 := R2.frozen 1; have R2 := Lib.hid R2)
    | (go_at_call 112; (with_reducible refine (BT.out _ D.out).mono ?_); rintro e w3 ⟨rfl, rfl⟩)
    | (go_at_call 81; (with_reducible refine (SP.out _ D.out).mono ?_); rintro e w5 ⟨A5, n5, c5, rfl, hv5, hb5⟩; have D := Lib.hid (D.out.trans (hb5.mono D.out.size))))
  have N8 := Blk.new w5 105 #[.bool hf, .bool m]
  have D6 := D.out.alloc D.out.size (.cells #[.bool hf, .bool m] 105)
  have V6 := hv5.below (al1 w5 (.cells #[.bool hf, .bool m] 105))
  have hne : w5.heap.size ≠ w.heap.size + 1 := by
    obtain ⟨-, R⟩ := KB.out _ D.out
    have := R.lt
    omega
  obtain ⟨w6, hw6⟩ : ∃ w6, w5.alloc (.cells #[.bool hf, .bool m] 105) = w6 := ⟨_, rfl⟩
  obtain ⟨g8, hg8⟩ : ∃ g8, w5.heap.size = g8 := ⟨_, rfl⟩
  rw [hw6] at N8 D6 V6 ⊢
  rw [hg8] at N8 hne ⊢
  have c1 : IntKind.i64.wrap (u + 1074) = u + 1074 := IntWalk.i64_in _ (by omega)
  have c2 : IntKind.u64.wrap (u + 1074) = u + 1074 := IntWalk.u64_in _ (by omega)
  have c3 : IntKind.u64.wrap ((u + 1074) * 4503599627370496) = (u + 1074) * 4503599627370496 := IntWalk.u64_in _ (by omega)
  have c4 : IntKind.u64.wrap ((u + 1074) * 4503599627370496 + q) = (u + 1074) * 4503599627370496 + q := IntWalk.u64_in _ (by omega)
  have D := Lib.hid D6
  clear hw6 hg8 D6 hv5 hb5 t0 t1 f0 f1 R2 p0 p1 p2 hb0
  have N9 := N8
  have V9 : NV w6.drew (.slice A5 n5 c5) q := V6
  obtain ⟨-, R2⟩ := KB.out _ D.out
  have n0 := N9.at_ 0 rfl; have n1 := N9.at_ 1 rfl
  (refine wp_region_L (S := fun w' => w'.cell? ⟨g8, 0, none⟩ = some (.bool hf) ∧ w'.cell? ⟨g8, 1, none⟩ = some (.bool m)) (nl := 1000000) (by kernel_rfl) ?_ (fun hHeld => ?_); focus (exact ⟨n0, n1⟩))
  (refine wpAnyL_take (i := 0) (oi := _) (v := ?_) rfl (by kernel_rfl) (by kernel_rfl) (by kernel_rfl) (fun _ _ _ h => h) (Or.inl ⟨by first | rfl | kernel_rfl, ?hy1⟩) (by assumption) ?rs1; (case hy1 => (intro w hSw; (try dsimp only at hSw); go_simp; first | done | with_reducible rfl)); case' rs1 => (simp only [List.getElem_toArray, List.getElem_cons_zero, List.getElem_cons_succ, Act.put, List.setIfInBounds_toArray, List.set_cons_zero, List.set_cons_succ])); (refine wpAnyL_take (i := 1) (oi := _) (v := ?_) rfl (by kernel_rfl) (by kernel_rfl) (by kernel_rfl) (fun _ _ _ h => h) (Or.inl ⟨by first | rfl | kernel_rfl, ?hy2⟩) (by assumption) ?rs2; (case hy2 => (intro w hSw; (try dsimp only at hSw); go_simp; first | done | with_reducible rfl)); case' rs2 => (simp only [List.getElem_toArray, List.getElem_cons_zero, List.getElem_cons_succ, Act.put, List.setIfInBounds_toArray, List.set_cons_zero, List.set_cons_succ])); (refine wpAnyL_take (i := 2) (oi := _) (v := ?_) rfl (by kernel_rfl) (by kernel_rfl) (by kernel_rfl) (fun _ _ _ h => h) (Or.inl ⟨by first | rfl | kernel_rfl, ?hy3⟩) (by assumption) ?rs3; (case hy3 => (intro w hSw; (try dsimp only at hSw); go_simp; first | done | with_reducible rfl)); case' rs3 => (simp only [List.getElem_toArray, List.getElem_cons_zero, List.getElem_cons_succ, Act.put, List.setIfInBounds_toArray, List.set_cons_zero, List.set_cons_succ])); (refine wpAnyL_take (i := 3) (oi := _) (v := ?_) rfl (by kernel_rfl) (by kernel_rfl) (by kernel_rfl) (fun _ _ _ h => h) (Or.inl ⟨by first | rfl | kernel_rfl, ?hy4⟩) (by assumption) ?rs4; (case hy4 => (intro w hSw; (try dsimp only at hSw); go_simp; first | done | with_reducible rfl)); case' rs4 => (simp only [List.getElem_toArray, List.getElem_cons_zero, List.getElem_cons_succ, Act.put, List.setIfInBounds_toArray, List.set_cons_zero, List.set_cons_succ])); (refine wpAnyL_take (i := 4) (oi := _) (v := ?_) rfl (by kernel_rfl) (by kernel_rfl) (by kernel_rfl) (fun _ _ _ h => h) (Or.inl ⟨by first | rfl | kernel_rfl, ?hy5⟩) (by assumption) ?rs5; (case hy5 => (intro w hSw; (try dsimp only at hSw); go_simp; first | done | with_reducible rfl)); case' rs5 => (simp only [List.getElem_toArray, List.getElem_cons_zero, List.getElem_cons_succ, Act.put, List.setIfInBounds_toArray, List.set_cons_zero, List.set_cons_succ])); (refine wpAnyL_take (i := 7) (oi := _) (v := ?_) rfl (by kernel_rfl) (by kernel_rfl) (by kernel_rfl) (fun _ _ _ h => h) (Or.inl ⟨by first | rfl | kernel_rfl, ?hy6⟩) (by assumption) ?rs6; (case hy6 => (intro w hSw; (try dsimp only at hSw); go_simp; first | done | with_reducible rfl)); case' rs6 => (simp only [List.getElem_toArray, List.getElem_cons_zero, List.getElem_cons_succ, Act.put, List.setIfInBounds_toArray, List.set_cons_zero, List.set_cons_succ])); skip
  (refine wpAnyL_one (i := 5) (o := _) (by kernel_rfl) rfl (fun K hK => ?_); clear hHeld; simp only [List.getElem_toArray, List.getElem_cons_zero, List.getElem_cons_succ]; go_simp; (go_at_call 115; (with_reducible refine (WD.out _ _ _ _ V9).mono ?_); rintro e w7 ⟨rfl, rfl⟩); refine hK.out _ _ ?_ (fun hHeld => ?_); focus (intro _; exact ⟨n0, n1⟩)); have hHeld := hHeld (by decide); clear hK K; (try simp only [Act.put, List.setIfInBounds_toArray, List.set_cons_zero, List.set_cons_succ])
  (refine wpAnyL_take (i := 6) (oi := _) (v := ?_) rfl (by kernel_rfl) (by kernel_rfl) (by kernel_rfl) (fun _ _ _ h => h) (Or.inl ⟨by first | rfl | kernel_rfl, ?hy7⟩) (by assumption) ?rs7; (case hy7 => (intro w hSw; (try dsimp only at hSw); go_simp; first | done | with_reducible rfl)); case' rs7 => (simp only [List.getElem_toArray, List.getElem_cons_zero, List.getElem_cons_succ, Act.put, List.setIfInBounds_toArray, List.set_cons_zero, List.set_cons_succ])); (refine wpAnyL_take (i := 8) (oi := _) (v := ?_) rfl (by kernel_rfl) (by kernel_rfl) (by kernel_rfl) (fun _ _ _ h => h) (Or.inl ⟨by first | rfl | kernel_rfl, ?hy8⟩) (by assumption) ?rs8; (case hy8 => (intro w hSw; (try dsimp only at hSw); go_simp; first | done | with_reducible rfl)); case' rs8 => (simp only [List.getElem_toArray, List.getElem_cons_zero, List.getElem_cons_succ, Act.put, List.setIfInBounds_toArray, List.set_cons_zero, List.set_cons_succ])); skip
  have t0 := R2.at_ 0 rfl; have t1 := R2.at_ 1 rfl; have f0 := R2.frozen 0; have f1 := R2.frozen 1
  (refine wpAnyL_one (i := 9) (o := _) (by kernel_rfl) rfl (fun K hK => ?_); clear hHeld; simp only [List.getElem_toArray, List.getElem_cons_zero, List.getElem_cons_succ]; go_simp; refine hK.out _ _ ?_ (fun hHeld => ?_); focus (intro _; (have NF := (N9.far (p := ⟨w.heap.size + 1, 0, none⟩) hne (.bool hf)).far (p := ⟨w.heap.size + 1, 1, none⟩) hne (.bool m); exact ⟨NF.at_ 0 rfl, NF.at_ 1 rfl⟩))); have hHeld := hHeld (by decide); clear hK K; (try simp only [Act.put, List.setIfInBounds_toArray, List.set_cons_zero, List.set_cons_succ])
  refine wpAnyL_done (by kernel_rfl) ?_ _
  go_wp2
  exact bodyPost_ret (v := .tuple #[.int .u64 ((u + 1074) * 4503599627370496 + q), .agg #[.bool hf, .bool m]]) (by simp [results, Tryd.results103, go_sem, t0, t1]) rfl
    ⟨rfl, (below2 (D0.out.trans (D.out.mono D0.out.size)) (B := w.heap.size + 1) (by omega) (.bool hf) (.bool m)).drew⟩
theorem two_54 : (18014398509481984 : Int) < 4294967296 ^ 400 := Int.lt_of_lt_of_le (show (18014398509481984 : Int) < 4294967296 ^ 2 by decide) (pow_mono (by decide))
/-- what toward0 tells -/
theorem toward0_c (b : Bool) (A : Option Addr) (n c : Nat) (x z : Int) (w : World) (h : PV w (.slice A n c) 0 z) (hx : -20000 ≤ x ∧ x ≤ 20000) (hT : TabD w) :
    ∃ r hf m, Tow (sc z x) r hf m ∧ ∀ W, Below w.heap.size w W → Calls Tryd.prog 103 #[.agg #[.bool b, .slice A n c, .int .i64 x]] W (DC.RetB W (.tuple #[.int .u64 r, .agg #[.bool hf, .bool m]])) := by
  have sm := h.small
  have hlt := sm.2 rfl
  by_cases h0 : z = 0
  · subst h0
    obtain rfl := NV.zero h.nv
    exact ⟨0, false, false, by rw [sc_zero.2 rfl]; exact tow_zero, fun W hW => toward0_z b A c x W⟩
  · have hz : 0 < z := by omega
    have hn : n ≠ 0 := by
      rintro rfl
      obtain ⟨l, l1, l2, l3, l4⟩ := h.nv
      have en := l1.len_.1
      have := List.length_eq_zero_iff.1 en.symm
      rw [this] at l4
      simp [lv] at l4
      omega
    obtain ⟨k, k1, k2, k3, k4⟩ := bits_ex 12800 z hz (by rw [← pow_12800]; exact hlt)
    by_cases ht : k + x ≤ 1024
    · obtain ⟨u, hu⟩ : ∃ u : Int, u = max (k + x - 53) (-1074) := ⟨_, rfl⟩
      obtain ⟨t1, t2⟩ := tow_near (x := x) (by omega) k3 k4 k2 ht hu
      have hp := sh_pos sm.1 (x - u + 1)
      refine ⟨_, _, _, t2, fun W hW => toward0_near b A n c x z u k W (h.below hW) hn k3 k4 k2 k1 hx ht hu _ _ _ (by omega) (hT.below hW) fun W' hW' => ?_⟩
      exact split_c _ z (x - u) W' ((h.below hW).below hW') (by omega) (by omega) (Int.lt_trans t1 two_54) ((hT.below hW).below hW')
    · refine ⟨_, true, true, tow_far (t := 1024) rfl rfl ?_, fun W hW => toward0_far b A n c x z k W (h.below hW) hn k3 k4 k2 k1 hx (by omega)⟩
      have e1 : sc 1 (x + (k - 1 : Nat)) ≤ sc z x := by rw [← sc_two _ x (by omega), sc_le]; exact k4
      exact Int.le_trans (sc1_le (by omega) (by omega)) e1
/-- the rank that is told, and the number's bits -/
def ry (b : Bool) (r : Int) (hf m : Bool) (mode : Int) : Int := if up b (decide (r % 2 = 1)) hf m mode = true then r + 1 else r
def rx (b : Bool) (y : Int) : Int := if b = true then F.neg y else y
theorem number_c (b : Bool) (A : Option Addr) (n c : Nat) (x z r mode : Int) (hf m : Bool) (w : World) (h : PV w (.slice A n c) 0 z) (hx : -20000 ≤ x ∧ x ≤ 20000) (t : Tow (sc z x) r hf m) (hT : TabD w) :
    Calls Tryd.prog 73 #[.agg #[.bool b, .slice A n c, .int .i64 x], .int .i64 mode] w (DC.RetB w (.tuple #[.int .u64 (rx b (ry b r hf m mode)), .bool (hf || m)])) := by
  have D0 : Below w.heap.size w (w.alloc (.cells #[.bool b, .slice A n c, .int .i64 x] 25)) := al1 _ _
  have T0 : Hid (∀ W, Below w.heap.size w W → Calls Tryd.prog 103 #[.agg #[.bool b, .slice A n c, .int .i64 x]] W (DC.RetB W (.tuple #[.int .u64 r, .agg #[.bool hf, .bool m]]))) := by
    obtain ⟨r', h', m', t', hc⟩ := toward0_c b A n c x z w h hx hT
    obtain ⟨rfl, rfl, rfl⟩ := t.unique t'
    exact hc
  have r0 := t.r0
  have r1 := t.r1
  obtain ⟨u, hu⟩ : ∃ u, up b (decide (r % 2 = 1)) hf m mode = u := ⟨_, rfl⟩
  have AW : Hid (∀ W, Calls Tryd.prog 82 #[.agg #[.bool hf, .bool m], .bool b, .bool (decide (r % 2 = 1)), .int .i64 mode] W (DC.RetB W (.bool u))) := fun W => by
    have := away_c hf m b (decide (r % 2 = 1)) mode W
    rwa [hu] at this
  have NG : Hid (∀ (W : World) (y : Int), 0 ≤ y → y ≤ 9223372036854775807 → Calls Tryd.prog 48 #[.int .u64 y] W (fun e w' => e = .returned (.int .u64 (F.neg y)) ∧ W = w')) := fun W y h1 h2 => FloatC.Neg_c y h1 (by omega) W
  unfold ry rx
  rw [hu]
  have BX0 := BX.new w b A n c x
  obtain ⟨W0, hW0⟩ : ∃ W0, w.alloc (.cells #[.bool b, .slice A n c, .int .i64 x] 25) = W0 := ⟨_, rfl⟩
  rw [hW0] at D0 BX0
  have HW0 := Lib.hid hW0
  have KB : Hid (∀ W, Below W0.heap.size W0 W → BX W w.heap.size b A n c x) := fun W hW => BX0.below hW
  have D0 := Lib.hid D0
  have i1 : IntKind.u64.wrap (r + 1) = r + 1 := IntWalk.u64_in _ (by omega)
  have i2 : IntKind.u64.wrap (r % 2) = r % 2 := IntWalk.u64_in _ (by omega)
  have e5 : (r % 2 == 1) = decide (r % 2 = 1) := rfl
  clear hu t h hx hT hW0 BX0
  cases u <;> cases b
  all_goals (
    go_enter Tryd.func73, Tryd.ntmps73
    go_wp2_with (first
      | (go_at_call 103; rw [HW0.out]; (with_reducible refine (T0.out _ D0.out).mono ?_); rintro e w2 ⟨rfl, hb0⟩; have D := Lib.hid (hb0.alloc hb0.size (.cells #[.bool hf, .bool m] 105)); obtain ⟨p0, p1, p2⟩ := KB.out _ D.out)
      | (go_at_call 82; (try rw [e5]); (with_reducible refine (AW.out _).mono ?_); rintro e w3 ⟨rfl, hb3⟩; have D := Lib.hid (D.out.trans (hb3.mono D.out.size)); obtain ⟨p0, p1, p2⟩ := KB.out _ D.out; have N8 := (Blk.new w2 105 #[.bool hf, .bool m]).below hb3 (Blk.new w2 105 #[.bool hf, .bool m]).lt; have n0 := N8.at_ 0 rfl; have n1 := N8.at_ 1 rfl)
      | (go_at_call 48; (with_reducible refine (NG.out _ _ (by omega) (by omega)).mono ?_); rintro e w4 ⟨rfl, rfl⟩))
    clear T0 AW NG KB HW0 N8
    have D9 := Lib.hid (D0.out.trans (D.out.mono D0.out.size))
    cases hf <;> cases m
    all_goals (
      go_region
      go_wp2
      go_ret2
      exact ⟨rfl, D9.out.drew⟩))
end RC
end Go.Proofs.YtnlgkhgighhfjaaDoor

/-
  Package round: To; a half, twice.
-/
namespace Go.Proofs.YtnlgkhgighhfjaaDoor
set_option linter.unusedVariables false
set_option linter.unusedSimpArgs false
open Go.RowKit
set_option linter.unusedVariables false
set_option linter.unusedSimpArgs false
namespace RC
open L NC NK DC
open Z (Nz Tz cmpv)
theorem tow_ex {z x : Int} (h0 : 0 ≤ z) (hz : z < 4294967296 ^ 400) (hx : -20000 ≤ x ∧ x ≤ 20000) : ∃ r h m, Tow (sc z x) r h m := by
  by_cases h : z = 0
  · subst h; exact ⟨0, false, false, by rw [sc_zero.2 rfl]; exact tow_zero⟩
  · obtain ⟨k, k1, k2, k3, k4⟩ := bits_ex 12800 z (by omega) (by rw [← pow_12800]; exact hz)
    by_cases ht : k + x ≤ 1024
    · exact ⟨_, _, _, (tow_near (x := x) (by omega) k3 k4 k2 ht rfl).2⟩
    · refine ⟨_, true, true, tow_far (t := 1024) rfl rfl ?_⟩
      have e1 : sc 1 (x + (k - 1 : Nat)) ≤ sc z x := by rw [← sc_two _ x (by omega), sc_le]; exact k4
      exact Int.le_trans (sc1_le (by omega) (by omega)) e1
/-- how far from 0 -/
def A (d : Dy) : Int := sc (d.m.natAbs : Int) d.x
def ng (d : Dy) : Bool := decide (d.m < 0)
theorem abs_small {d : Dy} (h : inb d.m d.x) : (d.m.natAbs : Int) < 4294967296 ^ 400 := by
  obtain ⟨h1, h2, -⟩ := h
  generalize (4294967296 : Int) ^ 400 = c400 at *
  omega
theorem towA {d : Dy} (h : Ok d) : ∃ r hf m, Tow (A d) r hf m ∧ tow (A d) = (r, hf, m) := by
  obtain ⟨r, hf, m, t⟩ := tow_ex (z := (d.m.natAbs : Int)) (x := d.x) (by omega) (abs_small h.2.2) (by have := h.2.2.2.2; omega)
  exact ⟨r, hf, m, t, tow_eq t⟩
/-- what To tells of a number -/
noncomputable def YY (b : Bool) (a : Int) (mode : Int) : Int := ry b (tow a).1 (tow a).2.1 (tow a).2.2 mode
noncomputable def LL (a : Int) : Bool := (tow a).2.1 || (tow a).2.2
noncomputable def TX (d : Dy) (mode : Int) : Int := if d.er = 0 ∧ 0 ≤ mode ∧ mode ≤ 4 then rx (ng d) (YY (ng d) (A d) mode) else 0
noncomputable def TL (d : Dy) (mode : Int) : Bool := if d.er = 0 ∧ 0 ≤ mode ∧ mode ≤ 4 then LL (A d) else false
def TE (d : Dy) (mode : Int) : Int := if d.er ≠ 0 then d.er else if 0 ≤ mode ∧ mode ≤ 4 then 0 else 1
theorem GV.tow {w : World} {b A n c x d} (g : GV w b A n c x d) : ∃ r hf m, Tow (sc (d.m.natAbs : Int) x) r hf m ∧ tow (RC.A d) = (r, hf, m) := by
  obtain ⟨h1, hb, hx, he, hc, hi⟩ := g
  obtain ⟨r, hf, m, t, e⟩ := towA ⟨he, hc, hi⟩
  rw [hx]
  exact ⟨r, hf, m, t, e⟩
theorem To_d (v : Value) (d : Dy) (mode : Int) (w : World) (h : DV w v d) (hT : TabD w) : Calls Tryd.prog 40 #[v, .int .i64 mode] w (DC.RetB w (.tuple #[.int .u64 (TX d mode), .bool (TL d mode), .int .i64 (TE d mode)])) := by
  have C1 : ∀ W, Below w.heap.size w W → Calls Tryd.prog 16 #[v] W (DC.RetB W (.int .i64 d.er)) := fun W hW => Check_d v d W (h.below hW)
  obtain ⟨b1, A1, n1, c1, x1, l1, rfl, -, -, -, -, g1, -⟩ := h
  have X0 := BX.new w b1 A1 n1 c1 x1
  have D0 := al1 w (.cells #[.bool b1, .slice A1 n1 c1, .int .i64 x1] 25)
  obtain ⟨W0, hW0⟩ : ∃ W0, w.alloc (.cells #[.bool b1, .slice A1 n1 c1, .int .i64 x1] 25) = W0 := ⟨_, rfl⟩
  rw [hW0] at X0 D0
  have C1 := Lib.hid (C1 W0 D0)
  have IM : Hid (∀ W, Calls Tryd.prog 72 #[.int .i64 mode] W (fun e w' => e = .returned (.bool (decide (0 ≤ mode ∧ mode ≤ 4))) ∧ W = w')) := fun W => isMode_c mode W
  have KB : Hid (∀ W, Below W0.heap.size W0 W → BX W w.heap.size b1 A1 n1 c1 x1) := fun W hW => X0.below hW
  have HW0 := Lib.hid hW0
  unfold TX TL TE
  obtain ⟨E, hE⟩ : ∃ E, d.er = E := ⟨_, rfl⟩
  rw [hE] at C1 ⊢
  by_cases h0 : E = 0
  · have t1 : (E != 0) = false := by simp [h0]
    by_cases hm : 0 ≤ mode ∧ mode ≤ 4
    · rw [if_pos ⟨h0, hm⟩, if_pos ⟨h0, hm⟩, if_neg (by simpa using h0), if_pos hm]
      rw [decide_eq_true hm] at IM
      have g := g1 (hE.trans h0)
      have hx := g.2.2.1
      have hi := g.2.2.2.2.2
      obtain ⟨r, hf, m, t, et⟩ := GV.tow g
      have NU : Hid (∀ W, Below W0.heap.size W0 W → Calls Tryd.prog 73 #[.agg #[.bool b1, .slice A1 n1 c1, .int .i64 x1], .int .i64 mode] W (DC.RetB W (.tuple #[.int .u64 (rx (ng d) (YY (ng d) (RC.A d) mode)), .bool (LL (RC.A d))]))) := fun W hW => by
        have := number_c b1 A1 n1 c1 x1 _ r mode hf m W ((g.pv.below D0).below hW) (by have := hi.2.2; omega) t ((hT.below D0).below hW)
        unfold YY LL ng
        rw [et, ← g.2.1]
        exact this
      generalize rx (ng d) (YY (ng d) (RC.A d) mode) = X at *
      generalize LL (RC.A d) = Lo at *
      clear h0 hE hW0 g1 hT t et hi g hm hx X0
      have D0 := Lib.hid D0
      go_enter Tryd.func40, Tryd.ntmps40
      go_wp2_with (first
        | (go_at_call 16; rw [HW0.out]; (with_reducible refine (C1.out).mono ?_); rintro e w2 ⟨rfl, hb0⟩; have D := Lib.hid hb0; obtain ⟨p0, p1, p2⟩ := KB.out _ D.out)
        | (go_at_call 72; (with_reducible refine (IM.out _).mono ?_); rintro e w3 ⟨rfl, rfl⟩)
        | (go_at_call 73; (with_reducible refine (NU.out _ D.out).mono ?_); rintro e w4 ⟨rfl, hb4⟩; have D := Lib.hid (D.out.trans (hb4.mono D.out.size))))
      go_ret3
      exact ⟨by simp [t1], D0.out.trans (D.out.mono D0.out.size)⟩
    · rw [if_neg (fun h => hm h.2), if_neg (fun h => hm h.2), if_neg (by simpa using h0), if_neg hm]
      rw [decide_eq_false hm] at IM
      clear h0 hE hW0 g1 hT hm X0
      have D0 := Lib.hid D0
      go_enter Tryd.func40, Tryd.ntmps40
      go_wp2_with (first
        | (go_at_call 16; rw [HW0.out]; (with_reducible refine (C1.out).mono ?_); rintro e w2 ⟨rfl, hb0⟩; have D := Lib.hid hb0; obtain ⟨p0, p1, p2⟩ := KB.out _ D.out)
        | (go_at_call 72; (with_reducible refine (IM.out _).mono ?_); rintro e w3 ⟨rfl, rfl⟩))
      go_ret3
      exact ⟨rfl, D0.out.trans (D.out.mono D0.out.size)⟩
  · rw [if_neg (fun h => h0 h.1), if_neg (fun h => h0 h.1), if_pos h0]
    have t1 : (E != 0) = true := by simp [h0]
    clear h0 hE hW0 g1 hT X0
    have D0 := Lib.hid D0
    go_enter Tryd.func40, Tryd.ntmps40
    go_wp2_with (first
      | (go_at_call 16; rw [HW0.out]; (with_reducible refine (C1.out).mono ?_); rintro e w2 ⟨rfl, hb0⟩; have D := Lib.hid hb0))
    go_ret3
    exact ⟨rfl, D0.out.trans (D.out.mono D0.out.size)⟩
theorem ok2' (W : World) (x1 x2 : Int) (o : Bool) (ho : [x1, x2].all (· == 0) = o) : Calls Tryd.prog 46 #[.slice (some ⟨W.heap.size, 0, none⟩) 2 2] (W.alloc (.cells #[.int .i64 x1, .int .i64 x2] 26)) fun e w' => e = .returned (.bool o) ∧ W.alloc (.cells #[.int .i64 x1, .int .i64 x2] 26) = w' := by
  have h1 := ok_lit W [x1, x2] (by simp)
  rw [ho] at h1
  exact h1
/-- halfway between two -/
def hd : Dy := ⟨0, 9007199254740993, -53⟩
theorem tow_half {x : Int} (hx : x = -53) : Tow (sc 9007199254740993 x) 4607182418800017408 true false := by
  have := tow_near (z := 9007199254740993) (x := x) (b := 54) (by omega) (by decide) (by decide) (by omega) (by omega) (u := -52) (by omega)
  have h := this.2
  rw [show x - -52 + 1 = 0 by omega, show sh 9007199254740993 0 = 9007199254740993 by decide] at h
  exact h
theorem hd_ok : Ok hd := ⟨rfl, .inr (by decide), by
  have : (4294967296 : Int) ^ 2 ≤ 4294967296 ^ 400 := pow_mono (by decide)
  show (9007199254740993 : Int) < 4294967296 ^ 400 ∧ -(4294967296 ^ 400) < (9007199254740993 : Int) ∧ (-10000 : Int) ≤ -53 ∧ (-53 : Int) ≤ 10000
  generalize (4294967296 : Int) ^ 400 = c400 at *
  omega⟩
theorem TX_half : TX hd 0 = 4607182418800017408 ∧ TL hd 0 = true ∧ TE hd 0 = 0 ∧ TX hd 1 = 4607182418800017409 ∧ TE hd 1 = 0 := by
  have t := tow_eq (tow_half (x := hd.x) rfl)
  have e : A hd = sc 9007199254740993 hd.x := rfl
  unfold TX TL TE YY LL
  rw [e, t]
  refine ⟨?_, ?_, rfl, ?_, rfl⟩ <;> rfl
theorem half_dv (W : World) : DV ((W.alloc (.cells #[.int .u32 1, .int .u32 2097152] 34)).alloc (.cells #[.bool false, .slice (some ⟨W.heap.size, 0, none⟩) 2 2, .int .i64 (-53)] 25)) (.agg #[.bool false, .slice (some ⟨W.heap.size, 0, none⟩) 2 2, .int .i64 (-53)]) hd := by
  have g : GV (W.alloc (.cells #[.int .u32 1, .int .u32 2097152] 34)) false (some ⟨W.heap.size, 0, none⟩) 2 2 (-53) hd := by
    refine ⟨⟨[1, 2097152], Row.sl (L := [1, 2097152]) (Blk.new W 34 #[.int .u32 1, .int .u32 2097152]) 2 (by simp), by intro d hd; simp at hd; omega, by intro h; simp, ?_⟩, ?_, rfl, rfl, hd_ok.2.1, hd_ok.2.2⟩
    · simp [lv, hd]
    · simp [hd]
  exact (g.below (al1 _ _)).dv
set_option maxRecDepth 100000 in
theorem lives_c (w : World) (hT : TabD w) : Calls Tryd.prog 45 #[] w fun e w' => e = .returned (.bool true) ∧ Below w.heap.size w w' := by
  obtain ⟨e1, e2, e3, e4, e5⟩ := TX_half
  have V := half_dv w
  have X := BX.new (w.alloc (.cells #[.int .u32 1, .int .u32 2097152] 34)) false (some ⟨w.heap.size, 0, none⟩) 2 2 (-53)
  have S1 : (w.alloc (.cells #[.int .u32 1, .int .u32 2097152] 34)).heap.size = w.heap.size + 1 := by simp
  rw [S1] at X
  have D0 : Below w.heap.size w ((w.alloc (.cells #[.int .u32 1, .int .u32 2097152] 34)).alloc (.cells #[.bool false, .slice (some ⟨w.heap.size, 0, none⟩) 2 2, .int .i64 (-53)] 25)) := (al1 w _).trans ((al1 _ _).mono (by simp))
  obtain ⟨W0, hW0⟩ : ∃ W0, (w.alloc (.cells #[.int .u32 1, .int .u32 2097152] 34)).alloc (.cells #[.bool false, .slice (some ⟨w.heap.size, 0, none⟩) 2 2, .int .i64 (-53)] 25) = W0 := ⟨_, rfl⟩
  rw [hW0] at V X D0
  have T0 : Hid (Calls Tryd.prog 40 #[.agg #[.bool false, .slice (some ⟨w.heap.size, 0, none⟩) 2 2, .int .i64 (-53)], .int .i64 0] W0 (DC.RetB W0 (.tuple #[.int .u64 4607182418800017408, .bool true, .int .i64 0]))) := by
    have := To_d _ hd 0 W0 V (hT.below D0)
    rwa [e1, e2, e3] at this
  have T1 : Hid (∀ W, Below W0.heap.size W0 W → ∃ bl, Calls Tryd.prog 40 #[.agg #[.bool false, .slice (some ⟨w.heap.size, 0, none⟩) 2 2, .int .i64 (-53)], .int .i64 1] W (DC.RetB W (.tuple #[.int .u64 4607182418800017409, .bool bl, .int .i64 0]))) := fun W hW => by
    have := To_d _ hd 1 W (V.below hW) ((hT.below D0).below hW)
    rw [e4, e5] at this
    exact ⟨_, this⟩
  have KB : Hid (∀ W, Below W0.heap.size W0 W → BX W (w.heap.size + 1) false (some ⟨w.heap.size, 0, none⟩) 2 2 (-53)) := fun W hW => X.below hW
  have HW0 := Lib.hid hW0
  have D0 := Lib.hid D0
  clear e1 e2 e3 e4 e5 V X S1 hW0 hT
  go_enter Tryd.func45, Tryd.ntmps45
  go_wp2_with (first
    | (go_at_call 40; rw [HW0.out]; (with_reducible refine (T0.out).mono ?_); rintro e w2 ⟨rfl, hb0⟩; have D := Lib.hid hb0; obtain ⟨p0, p1, p2⟩ := KB.out _ D.out)
    | (go_at_call 40; obtain ⟨bl, hto⟩ := T1.out _ D.out; (with_reducible refine hto.mono ?_); rintro e w3 ⟨rfl, hb3⟩; have D := Lib.hid (D.out.trans (hb3.mono D.out.size)))
    | (go_at_call 46; (with_reducible refine (ok2' w3 0 0 true rfl).mono ?_); rintro e w4 ⟨rfl, hw⟩; have s := al1 w3 (.cells #[.int .i64 0, .int .i64 0] 26); rw [hw] at s; have D := Lib.hid (D.out.trans (s.mono D.out.size))))
  go_ret
  exact ⟨rfl, D0.out.trans (D.out.mono D0.out.size)⟩
end RC
end Go.Proofs.YtnlgkhgighhfjaaDoor

/-
  Rounding, pure: what the laws ask.
-/
namespace Go.Proofs.YtnlgkhgighhfjaaDoor
set_option linter.unusedVariables false
set_option linter.unusedSimpArgs false
open Go.RowKit
set_option linter.unusedVariables false
set_option linter.unusedSimpArgs false
namespace RC
open L NC NK DC
open Z (Nz Tz cmpv)
theorem A_abs (d : Dy) : (0 ≤ S d → A d = S d ∧ ng d = false) ∧ (S d < 0 → A d = -S d ∧ ng d = true) := by
  have hp := sc_one_pos d.x
  have e1 : S d = d.m * sc 1 d.x := sc_mul1 _ _
  have e2 : A d = (d.m.natAbs : Int) * sc 1 d.x := sc_mul1 _ _
  rw [e1, e2]
  unfold ng
  generalize sc 1 d.x = P at *
  constructor
  · intro h
    have hm : 0 ≤ d.m := by
      rcases Int.lt_or_le d.m 0 with h1 | h1
      · have := Int.mul_neg_of_neg_of_pos h1 hp; omega
      · exact h1
    exact ⟨by rw [show (d.m.natAbs : Int) = d.m by omega], by simp; omega⟩
  · intro h
    have hm : d.m < 0 := by
      rcases Int.lt_or_le d.m 0 with h1 | h1
      · exact h1
      · have := Int.mul_nonneg h1 (Int.le_of_lt hp); omega
    exact ⟨by rw [show (d.m.natAbs : Int) = -d.m by omega, Int.neg_mul], by simp; omega⟩
theorem tow_exact {r : Int} (h0 : 0 ≤ r) (h1 : r ≤ 9218868437227405311) : Tow (U r) r false false := by
  have := U_lt h0 (show r < r + 1 by omega)
  refine ⟨h0, h1, Int.le_refl _, fun _ => this, ?_, ?_⟩
  · symm; rw [decide_eq_false_iff_not]; omega
  · symm; rw [decide_eq_false_iff_not]; intro h; exact h.1 rfl
theorem up_none (b o : Bool) (mode : Int) : up b o false false mode = false := by unfold up; simp
theorem ry_none (b : Bool) (r mode : Int) : ry b r false false mode = r := by unfold ry; rw [up_none]; simp
theorem rx_bd {b : Bool} {y : Int} (h0 : 0 ≤ y) (h1 : y ≤ 9218868437227405312) : 0 ≤ rx b y ∧ rx b y ≤ 18446744073709551615 ∧ F.nn (rx b y) ∧ F.rnk (rx b y) = (if b = true then -y else y) := by
  unfold rx F.nn F.rnk F.neg
  cases b
  · simp; omega
  · simp
    rw [if_pos (by omega)]
    refine ⟨by omega, by omega, by omega, ?_⟩
    rw [if_neg (by omega)]; omega
theorem ry_bd {b : Bool} {a r : Int} {hf m : Bool} (t : Tow a r hf m) (mode : Int) : 0 ≤ ry b r hf m mode ∧ ry b r hf m mode ≤ 9218868437227405312 ∧ r ≤ ry b r hf m mode ∧ ry b r hf m mode ≤ r + 1 := by
  have h0 := t.r0
  have h1 := t.r1
  unfold ry
  split <;> omega
theorem up_mono {b o hf m hf' m' : Bool} {mode : Int} (i1 : hf = true → hf' = true) (i2 : hf = true → m = true → m' = true) (i3 : m = true → hf' = true ∨ m' = true) : up b o hf m mode = true → up b o hf' m' mode = true := by
  unfold up
  by_cases m1 : mode = 1
  · subst m1; cases hf <;> cases m <;> cases hf' <;> cases m' <;> simp_all
  · by_cases m2 : mode = 2
    · subst m2; cases hf <;> cases m <;> cases hf' <;> cases m' <;> simp_all
    · by_cases m3 : mode = 3
      · subst m3; cases hf <;> cases m <;> cases hf' <;> cases m' <;> simp_all
      · by_cases m0 : mode = 0
        · subst m0; cases hf <;> cases m <;> cases hf' <;> cases m' <;> simp_all
        · cases hf <;> cases m <;> cases hf' <;> cases m' <;> simp_all
/-- of what is farther from 0 no less comes -/
theorem ry_mono {b : Bool} {a a' r r' : Int} {hf m hf' m' : Bool} (t : Tow a r hf m) (t' : Tow a' r' hf' m') (h : a ≤ a') (mode : Int) : ry b r hf m mode ≤ ry b r' hf' m' mode := by
  have hle : r ≤ r' := by
    rcases Int.lt_or_le r' r with h1 | h1
    · exfalso
      have c1 := U_le (r := r' + 1) (s := r) (by have := t'.r0; omega) (by omega)
      have c2 := t'.hi (by have := t.r1; omega)
      have c3 := t.lo
      omega
    · exact h1
  have k1 := ry_bd (b := b) t mode
  have k2 := ry_bd (b := b) t' mode
  rcases Int.lt_or_eq_of_le hle with h1 | rfl
  · omega
  · -- the same rank
    have g := U_lt t.r0 (show r < r + 1 by omega)
    have q1 := t.hh
    have q2 := t.hm
    have q3 := t'.hh
    have q4 := t'.hm
    have lo1 := t.lo
    generalize U r = u0 at *
    generalize U (r + 1) = u1 at *
    have i1 : hf = true → hf' = true := by
      rw [q1, q3, decide_eq_true_iff, decide_eq_true_iff]; omega
    have i2 : hf = true → m = true → m' = true := by
      rw [q1, q2, q4, decide_eq_true_iff, decide_eq_true_iff, decide_eq_true_iff]; omega
    have i3 : m = true → hf' = true ∨ m' = true := by
      rw [q2, q3, q4, decide_eq_true_iff, decide_eq_true_iff, decide_eq_true_iff]; omega
    have hup := up_mono (b := b) (o := decide (r % 2 = 1)) (mode := mode) i1 i2 i3
    unfold ry
    by_cases h2 : up b (decide (r % 2 = 1)) hf m mode = true
    · rw [if_pos h2, if_pos (hup h2)]; omega
    · rw [if_neg h2]; split <;> omega
/-- To by Tow -/
theorem TX_of {d : Dy} {mode r : Int} {hf m : Bool} (h : Ok d) (hm : 0 ≤ mode ∧ mode ≤ 4) (t : Tow (A d) r hf m) : TX d mode = rx (ng d) (ry (ng d) r hf m mode) ∧ TL d mode = (hf || m) ∧ TE d mode = 0 := by
  have e := tow_eq t
  unfold TX TL TE YY LL
  rw [if_pos ⟨h.1, hm⟩, if_pos ⟨h.1, hm⟩, if_neg (by simpa using h.1), if_pos hm, e]
  exact ⟨rfl, rfl, rfl⟩
theorem TX_bd (d : Dy) (mode : Int) (h : d.er = 0 → Ok d) : 0 ≤ TX d mode ∧ TX d mode ≤ 18446744073709551615 ∧ F.nn (TX d mode) := by
  by_cases h0 : d.er = 0 ∧ 0 ≤ mode ∧ mode ≤ 4
  · obtain ⟨r, hf, m, t, -⟩ := towA (h h0.1)
    have k := ry_bd (b := ng d) t mode
    rw [(TX_of (h h0.1) h0.2 t).1]
    have := rx_bd (b := ng d) k.1 k.2.1
    exact ⟨this.1, this.2.1, this.2.2.1⟩
  · unfold TX
    rw [if_neg h0]
    exact ⟨by omega, by omega, by unfold F.nn; omega⟩
theorem TE_0 {d : Dy} {mode : Int} (h : TE d mode = 0) : d.er = 0 ∧ 0 ≤ mode ∧ mode ≤ 4 := by
  unfold TE at h
  by_cases h0 : d.er = 0
  · rw [if_neg (by simpa using h0)] at h
    by_cases h1 : 0 ≤ mode ∧ mode ≤ 4
    · exact ⟨h0, h1⟩
    · rw [if_neg h1] at h; cases h
  · rw [if_pos h0] at h; exact absurd h h0
/-- of what is more no less comes -/
theorem order_p {c d : Dy} (hc : Ok c) (hd : Ok d) {mode : Int} (hm : 0 ≤ mode ∧ mode ≤ 4) (h : S c ≤ S d) : F.rnk (TX c mode) ≤ F.rnk (TX d mode) := by
  obtain ⟨r, hf, m, t, -⟩ := towA hc
  obtain ⟨r', hf', m', t', -⟩ := towA hd
  rw [(TX_of hc hm t).1, (TX_of hd hm t').1]
  have k1 := ry_bd (b := ng c) t mode
  have k2 := ry_bd (b := ng d) t' mode
  rw [(rx_bd k1.1 k1.2.1).2.2.2, (rx_bd k2.1 k2.2.1).2.2.2]
  have a1 := A_abs c
  have a2 := A_abs d
  rcases Int.lt_or_le (S c) 0 with s1 | s1
  · have b1 := a1.2 s1
    rcases Int.lt_or_le (S d) 0 with s2 | s2
    · have b2 := a2.2 s2
      rw [b1.2, b2.2]
      have := ry_mono (b := true) t' t (by omega) mode
      simp; exact this
    · have b2 := a2.1 s2
      rw [b1.2] at k1 ⊢
      rw [b2.2] at k2 ⊢
      simp; omega
  · have b1 := a1.1 s1
    have b2 := a2.1 (by omega)
    rw [b1.2, b2.2]
    have := ry_mono (b := false) t t' (by omega) mode
    simp; exact this
/-- down, up, and the others -/
theorem sides_p {d : Dy} (h : Ok d) {mode : Int} (hm : 0 ≤ mode ∧ mode ≤ 4) : TL d 2 = TL d mode ∧ TL d 1 = TL d mode ∧ (TX d mode = TX d 2 ∨ TX d mode = TX d 1) ∧ (TL d mode = false → TX d 2 = TX d 1) ∧
    (TL d mode = true → F.rnk (TX d 1) = F.rnk (TX d 2) + 1) ∧ (mode = 3 → TX d mode = if ng d = true then TX d 1 else TX d 2) := by
  obtain ⟨r, hf, m, t, -⟩ := towA h
  obtain ⟨x1, l1, -⟩ := TX_of h hm t
  obtain ⟨x2, l2, -⟩ := TX_of h (mode := 2) (by omega) t
  obtain ⟨x3, l3, -⟩ := TX_of h (mode := 1) (by omega) t
  rw [x1, x2, x3, l1, l2, l3]
  have k2 := ry_bd (b := ng d) t 2
  have k3 := ry_bd (b := ng d) t 1
  rw [(rx_bd k2.1 k2.2.1).2.2.2, (rx_bd k3.1 k3.2.1).2.2.2]
  clear x1 x2 x3 l1 l2 l3 k2 k3
  refine ⟨rfl, rfl, ?_, ?_, ?_, ?_⟩
  · have k := ry_bd (b := ng d) t mode
    by_cases hl : hf = false ∧ m = false
    · obtain ⟨rfl, rfl⟩ := hl
      rw [ry_none, ry_none]; exact .inl rfl
    · have e2 : ry (ng d) r hf m 2 = if ng d = true then r + 1 else r := by unfold ry up; rw [if_neg hl]; simp
      have e1 : ry (ng d) r hf m 1 = if ng d = true then r else r + 1 := by unfold ry up; rw [if_neg hl]; cases ng d <;> simp
      rw [e1, e2]
      have : ry (ng d) r hf m mode = r ∨ ry (ng d) r hf m mode = r + 1 := by omega
      rcases this with h | h <;> rw [h] <;> cases ng d <;> simp
  · intro hl; cases ng d <;> cases hf <;> cases m <;> simp_all [ry, up]
  · intro hl; cases ng d <;> cases hf <;> cases m <;> simp_all [ry, up] <;> omega
  · rintro rfl; cases ng d <;> cases hf <;> cases m <;> simp [ry, up]
/-- turned -/
def tm (mode : Int) : Int := if mode = 1 then 2 else if mode = 2 then 1 else mode
theorem turned_p {d : Dy} (h : Ok d) (h0 : d.m ≠ 0) {mode : Int} (hm : 0 ≤ mode ∧ mode ≤ 4) : Ok (neg d) ∧ TE (neg d) (tm mode) = 0 ∧ TX (neg d) (tm mode) = F.neg (TX d mode) ∧ TL (neg d) (tm mode) = TL d mode := by
  have hn : Ok (neg d) := by
    obtain ⟨a, b, c⟩ := h
    refine ⟨a, ?_, ?_⟩
    · unfold can at *
      show (-d.m = 0 ∧ d.x = 0) ∨ -d.m % 2 = 1
      omega
    · unfold inb at *
      show -d.m < _ ∧ _ < -d.m ∧ -10000 ≤ d.x ∧ d.x ≤ 10000
      generalize (4294967296 : Int) ^ 400 = c400 at *
      omega
  obtain ⟨r, hf, m, t, -⟩ := towA h
  have e : A (neg d) = A d := by
    unfold A
    show sc ((-d.m).natAbs : Int) d.x = sc (d.m.natAbs : Int) d.x
    rw [Int.natAbs_neg]
  have hm' : 0 ≤ tm mode ∧ tm mode ≤ 4 := by unfold tm; split; omega; split <;> omega
  have eg : ng (neg d) = !ng d := by
    unfold ng
    show decide (-d.m < 0) = !decide (d.m < 0)
    by_cases h1 : d.m < 0 <;> simp [h1] <;> omega
  obtain ⟨x1, l1, -⟩ := TX_of h hm t
  obtain ⟨x2, l2, e2⟩ := TX_of hn hm' (by rw [e]; exact t)
  have k := ry_bd (b := ng d) t mode
  refine ⟨hn, e2, ?_, by rw [l1, l2]⟩
  rw [x1, x2, eg]
  have eu : up (!ng d) (decide (r % 2 = 1)) hf m (tm mode) = up (ng d) (decide (r % 2 = 1)) hf m mode := by
    generalize decide (r % 2 = 1) = o
    generalize ng d = b
    unfold up tm
    by_cases m1 : mode = 1
    · subst m1; cases b <;> simp
    · by_cases m2 : mode = 2
      · subst m2; cases b <;> simp
      · simp [m1, m2]
  have ey : ry (!ng d) r hf m (tm mode) = ry (ng d) r hf m mode := by unfold ry; rw [eu]
  rw [ey]
  generalize ry (ng d) r hf m mode = y at *
  unfold rx
  cases ng d
  · simp
  · simp
    exact (F.neg_neg y (by omega) (by omega)).symm
/-- what is a number -/
theorem of_p {x : Int} (h0 : 0 ≤ x) (h1 : x ≤ 18446744073709551615) (h2 : F.exq x ≠ 2047) : (OfD x).e = 0 ∧ Ok (OfD x).d ∧ S (OfD x).d = sgm (F.sgn x) (U (x % 9223372036854775808)) ∧ x % 9223372036854775808 ≤ 9218868437227405311 := by
  have hb := F.exq_bd x
  have hf := F.fra_bd x
  have hx := F.mk_parts x h0 h1
  have hr : x % 9223372036854775808 = F.exq x * 4503599627370496 + F.fra x := by unfold F.exq F.fra; omega
  have mb : 0 ≤ mant x ∧ mant x < 9007199254740992 := by unfold mant; split <;> omega
  obtain ⟨k, hk⟩ : ∃ k : Nat, F.ulp x + 1074 = k := ⟨(F.ulp x + 1074).toNat, by unfold F.ulp; split <;> omega⟩
  have hkq : x % 9223372036854775808 = k * 4503599627370496 + mant x ∧ (k = 0 ∨ 4503599627370496 ≤ mant x) := by
    rw [hr]
    unfold F.ulp at hk
    unfold mant
    by_cases h : 0 < F.exq x
    · rw [if_pos h]; rw [if_pos (by omega)] at hk; exact ⟨by omega, by omega⟩
    · rw [if_neg h]; rw [if_neg (by omega)] at hk; exact ⟨by omega, by omega⟩
  have ub : -1074 ≤ F.ulp x ∧ F.ulp x ≤ 971 := by unfold F.ulp; split <;> omega
  have eU := (U_of mb.1 mb.2 hkq.2).1
  rw [← hkq.1, show (k : Int) - 1074 = F.ulp x by omega] at eU
  have e1 : OfD x = fin (sgm (F.sgn x) (mant x)) (F.ulp x) := by unfold OfD; rw [if_neg h2]
  have e0 : (fin (sgm (F.sgn x) (mant x)) (F.ulp x)).e = 0 := by
    by_cases hz : mant x = 0
    · rw [hz, show sgm (F.sgn x) 0 = 0 by cases F.sgn x <;> rfl, fin_zero]
    · obtain ⟨o, o1, o2⟩ := tz_spec (m := mant x) hz
      have os := odd_small o1 (by omega)
      have ht : tz (mant x) < 53 := by
        have h3 := Int.mul_le_mul_of_nonneg_right (show (1 : Int) ≤ o by omega) (Int.le_of_lt (two_pos' (tz (mant x))))
        exact two_lt (b := 53) (Int.lt_of_le_of_lt (by omega) mb.2)
      have hi : inb (sgm (F.sgn x) o) (F.ulp x + tz (mant x)) := by
        have : (4294967296 : Int) ^ 2 ≤ 4294967296 ^ 400 := pow_mono (by decide)
        unfold inb sgm
        generalize (4294967296 : Int) ^ 400 = c400 at *
        cases F.sgn x <;> simp <;> omega
      rw [fin_sg o1 o2, if_pos hi]
  have es := fin_sc (show -60000 ≤ F.ulp x by omega) e0
  rw [e1]
  refine ⟨e0, fin_ok _ _, ?_, by rw [hr]; omega⟩
  unfold S
  rw [es, eU]
  unfold sgm
  cases F.sgn x
  · simp; exact sc_mul1 _ _
  · simp; rw [sc_neg, sc_mul1]
theorem same_p {x mode : Int} (h0 : 0 ≤ x) (h1 : x ≤ 18446744073709551615) (h2 : F.exq x ≠ 2047) (hm : 0 ≤ mode ∧ mode ≤ 4) :
    TE (OfD x).d mode = 0 ∧ TL (OfD x).d mode = false ∧ ((TX (OfD x).d mode == x) = true ∨ ((TX (OfD x).d mode == x) = false ∧ x = 9223372036854775808 ∧ TX (OfD x).d mode = 0)) := by
  obtain ⟨e, hok, hS, hr⟩ := of_p h0 h1 h2
  have hr0 : 0 ≤ x % 9223372036854775808 := by omega
  have hU := U_pos hr0
  have aa := A_abs (OfD x).d
  have eA : A (OfD x).d = U (x % 9223372036854775808) := by
    rw [hS] at aa
    unfold sgm at aa
    cases hs : F.sgn x <;> rw [hs] at aa <;> simp at aa
    · exact (aa.1 hU).1
    · rcases Int.lt_or_eq_of_le hU with h | h
      · exact (aa.2 h).1
      · have := (aa.1 (by omega)).1; omega
  have t := tow_exact hr0 hr
  rw [← eA] at t
  obtain ⟨x1, l1, e1⟩ := TX_of hok hm t
  refine ⟨e1, by rw [l1]; rfl, ?_⟩
  rw [x1, ry_none]
  by_cases hz : x % 9223372036854775808 = 0
  · have hg : ng (OfD x).d = false := by
      rw [hz, U_zero] at hS
      exact (aa.1 (by rw [hS]; cases F.sgn x <;> simp [sgm])).2
    rw [hg, hz]
    unfold rx
    simp
    omega
  · have hUp : 0 < U (x % 9223372036854775808) := by
      have := U_lt (r := 0) (s := x % 9223372036854775808) (by omega) (by omega)
      rwa [U_zero] at this
    left
    rw [beq_iff_eq]
    unfold rx
    cases hs : F.sgn x
    · have hg := (aa.1 (by rw [hS, hs]; unfold sgm; simp; omega)).2
      rw [hg]
      have := (F.sgn_iff' x).1 hs
      simp; omega
    · have hg := (aa.2 (by rw [hS, hs]; unfold sgm; simp; omega)).2
      rw [hg]
      have := (F.sgn_iff x).1 hs
      unfold F.neg
      simp; omega
end RC
end Go.Proofs.YtnlgkhgighhfjaaDoor

/-
  Package round: multiple, Cut.
-/
namespace Go.Proofs.YtnlgkhgighhfjaaDoor
set_option linter.unusedVariables false
set_option linter.unusedSimpArgs false
open Go.RowKit
set_option linter.unusedVariables false
set_option linter.unusedSimpArgs false
namespace RC
open L NC NK DC
open Z (Nz Tz cmpv)
theorem pv_zero' {w : World} {A : Option Addr} {n c : Nat} {z : Int} (h : PV w (.slice A n c) 0 z) : n = 0 ↔ z = 0 := by
  constructor
  · rintro rfl
    obtain ⟨l, l1, l2, l3, l4⟩ := h.nv
    have en := l1.len_.1
    have := List.length_eq_zero_iff.1 en.symm
    rw [this] at l4
    exact l4.symm
  · rintro rfl
    exact NV.zero h.nv
theorem multiple_c (b : Bool) (A : Option Addr) (n c : Nat) (z x : Int) (w : World) (h : PV w (.slice A n c) 0 z) (hx : -10000 ≤ x ∧ x ≤ 20000) (hT : TabD w) :
    Calls Tryd.prog 85 #[.bool b, .slice A n c, .int .i64 x] w (RetD w (fin (sgm b z) x)) := by
  obtain ⟨W0, hW0, D0, ZS, KB⟩ := res0 w
  have ez := pv_zero' h
  have KB := Lib.hid KB
  have HW0 := Lib.hid hW0
  have R0 := KB.out _ (Below.refl _ _)
  by_cases h0 : z = 0
  · have hn : ((n : Int) == 0) = true := by simp [ez.2 h0]
    rw [h0, show sgm b 0 = 0 by cases b <;> rfl, fin_zero]
    rw [← hW0] at R0 D0
    have t0 := R0.at_ 0 rfl; have t1 := R0.at_ 1 rfl; have t2 := R0.at_ 2 rfl; have f0 := R0.frozen 0; have f1 := R0.frozen 1; have f2 := R0.frozen 2
    have D0 := Lib.hid D0
    clear h hx hT hW0 R0 ez h0 ZS
    go_enter Tryd.func85, Tryd.ntmps85
    go_wp2
    exact bodyPost_ret (v := .tuple #[.agg #[.bool false, .slice none 0 0, .int .i64 0], .int .i64 0]) (by simp [results, Tryd.results85, go_sem, t0, t1, t2]) rfl
      (RetD.none D0.out)
  · have hn : ((n : Int) == 0) = false := by simp; exact fun h => h0 (ez.1 h)
    by_cases hb : x ≤ 10000
    · have hb' : ¬ x > 10000 := by omega
      have MK : Hid (Calls Tryd.prog 15 #[.bool b, .slice A n c, .int .i64 x] W0 (RetD W0 (fin (sgm b z) x))) := by
        have := Make_d b A n c 0 z x W0 (h.below D0) (hT.below D0)
        unfold Mk at this
        rwa [if_neg (by decide), if_neg (by omega)] at this
      generalize fin (sgm b z) x = r at *
      have D0 := Lib.hid D0
      clear h hx hT hW0 R0 ez h0 ZS hb
      go_enter Tryd.func85, Tryd.ntmps85
      go_wp2_with (first
        | (go_at_call 15; rw [HW0.out]; (with_reducible refine (MK.out).mono ?_); rintro e w6 ⟨bb, A5, n5, c5, x5, rfl, hv5, hb0⟩; have D := Lib.hid hb0; have R2 := KB.out _ D.out; have t0 := R2.at_ 0 rfl; have t1 := R2.at_ 1 rfl; have t2 := R2.at_ 2 rfl; have f0 := R2.frozen 0; have f1 := R2.frozen 1; have f2 := R2.frozen 2; have R2 := Lib.hid R2))
      exact bodyPost_ret (v := .tuple #[.agg #[.bool bb, .slice A5 n5 c5, .int .i64 x5], .int .i64 r.e]) (by simp [results, Tryd.results85, go_sem, t0, t1, t2]) rfl
        ⟨_, _, _, _, _, rfl, hv5.set3 R2.out _ _ _ (by intro z h; cases h) (by intro z h; cases h), below3 (D0.out.trans (D.out.mono D0.out.size)) (by omega) _ _ _⟩
    · have hb' : x > 10000 := by omega
      have e : fin (sgm b z) x = ⟨2, dz⟩ := by
        obtain ⟨o, o1, o2⟩ := tz_spec h0
        rw [fin_sg o1 o2, if_neg]
        intro hi
        have := hi.2.2.2
        omega
      rw [e]
      rw [← hW0] at R0 D0
      have t0 := R0.at_ 0 rfl; have t1 := R0.at_ 1 rfl; have t2 := R0.at_ 2 rfl; have f0 := R0.frozen 0; have f1 := R0.frozen 1; have f2 := R0.frozen 2
      have D0 := Lib.hid D0
      clear h hx hT hW0 R0 ez h0 ZS hb e
      go_enter Tryd.func85, Tryd.ntmps85
      go_wp2
      exact bodyPost_ret (v := .tuple #[.agg #[.bool false, .slice none 0 0, .int .i64 0], .int .i64 2]) (by simp [results, Tryd.results85, go_sem, t0, t1, t2]) rfl
        (RetD.none D0.out)
/-- what Cut tells -/
def cq (d : Dy) (places mode : Int) : Int :=
  if up (ng d) (decide (sh (d.m.natAbs : Int) (d.x - places + 1) / 2 % 2 = 1)) (decide (sh (d.m.natAbs : Int) (d.x - places + 1) % 2 = 1)) (lo (d.m.natAbs : Int) (d.x - places + 1)) mode = true then sh (d.m.natAbs : Int) (d.x - places + 1) / 2 + 1 else sh (d.m.natAbs : Int) (d.x - places + 1) / 2
def CR (d : Dy) (places mode : Int) : Re := if d.er ≠ 0 then ⟨d.er, dz⟩ else if ¬ ((0 ≤ mode ∧ mode ≤ 4) ∧ -20000 ≤ places ∧ places ≤ 20000) then ⟨1, dz⟩ else if d.m = 0 ∨ places ≤ d.x then ⟨0, d⟩ else fin (sgm (ng d) (cq d places mode)) places
def CL (d : Dy) (places mode : Int) : Bool := if d.er ≠ 0 ∨ ¬ ((0 ≤ mode ∧ mode ≤ 4) ∧ -20000 ≤ places ∧ places ≤ 20000) ∨ d.m = 0 ∨ places ≤ d.x then false else decide ((CR d places mode).e = 0)
def RetCt (w : World) (r : Re) (l : Bool) (e : Ending) (w' : World) : Prop :=
  ∃ b A n c x, e = .returned (.tuple #[.agg #[.bool b, .slice A n c, .int .i64 x], .bool l, .int .i64 r.e]) ∧ GV w' b A n c x r.d ∧ Below w.heap.size w w'
theorem RetCt.none {w w' : World} {er : Int} (hb : Below w.heap.size w w') : RetCt w ⟨er, dz⟩ false (.returned (.tuple #[.agg #[.bool false, .slice none 0 0, .int .i64 0], .bool false, .int .i64 er])) w' := ⟨_, _, _, _, _, rfl, GV.zero _, hb⟩
theorem Cut_err (v : Value) (d : Dy) (places mode : Int) (w : World) (h : DV w v d) (he : d.er ≠ 0) : Calls Tryd.prog 43 #[v, .int .i64 places, .int .i64 mode] w (RetCt w ⟨d.er, dz⟩ false) := by
  have C1 : ∀ W, Below w.heap.size w W → Calls Tryd.prog 16 #[v] W (DC.RetB W (.int .i64 d.er)) := fun W hW => Check_d v d W (h.below hW)
  obtain ⟨b1, A1, n1, c1, x1, l1, rfl, -, -, -, -, g1, -⟩ := h
  obtain ⟨W0, hW0, D0, KB⟩ := box1 w b1 A1 n1 c1 x1
  have C1 := Lib.hid (C1 W0 D0)
  have KB := Lib.hid KB
  have D0 := Lib.hid D0
  have HW0 := Lib.hid hW0
  have t9 : (d.er != 0) = true := by simp [he]
  generalize d.er = E at *
  clear he hW0 g1
  go_enter Tryd.func43, Tryd.ntmps43
  go_wp2_with (first
    | (go_at_call 16; rw [HW0.out]; (with_reducible refine (C1.out).mono ?_); rintro e w2 ⟨rfl, hb0⟩; have D := Lib.hid hb0; obtain ⟨⟨p0, p1, p2⟩, R2⟩ := KB.out _ D.out; have t0 := R2.at_ 0 rfl; have t1 := R2.at_ 1 rfl; have t2 := R2.at_ 2 rfl; have f0 := R2.frozen 0; have f1 := R2.frozen 1; have f2 := R2.frozen 2; have R2 := Lib.hid R2))
  exact bodyPost_ret (v := .tuple #[.agg #[.bool false, .slice none 0 0, .int .i64 0], .bool false, .int .i64 E]) (by simp [results, Tryd.results43, go_sem, t0, t1, t2]) rfl
    (RetCt.none (below3 (D0.out.trans (D.out.mono D0.out.size)) (by omega) _ _ _))
theorem Cut_arg (v : Value) (d : Dy) (places mode : Int) (w : World) (h : DV w v d) (he : d.er = 0) (ha : ¬ ((0 ≤ mode ∧ mode ≤ 4) ∧ -20000 ≤ places ∧ places ≤ 20000)) : Calls Tryd.prog 43 #[v, .int .i64 places, .int .i64 mode] w (RetCt w ⟨1, dz⟩ false) := by
  have C1 : ∀ W, Below w.heap.size w W → Calls Tryd.prog 16 #[v] W (DC.RetB W (.int .i64 d.er)) := fun W hW => Check_d v d W (h.below hW)
  obtain ⟨b1, A1, n1, c1, x1, l1, rfl, -, -, -, -, g1, -⟩ := h
  obtain ⟨W0, hW0, D0, KB⟩ := box1 w b1 A1 n1 c1 x1
  have C1 := Lib.hid (C1 W0 D0)
  have IM : Hid (∀ W, Calls Tryd.prog 72 #[.int .i64 mode] W (fun e w' => e = .returned (.bool (decide (0 ≤ mode ∧ mode ≤ 4))) ∧ W = w')) := fun W => isMode_c mode W
  have KB := Lib.hid KB
  have D0 := Lib.hid D0
  have HW0 := Lib.hid hW0
  rw [he] at C1
  clear hW0 g1 he
  have h3 : (¬ (0 ≤ mode ∧ mode ≤ 4)) ∨ ((0 ≤ mode ∧ mode ≤ 4) ∧ places < -20000) ∨ ((0 ≤ mode ∧ mode ≤ 4) ∧ ¬ places < -20000 ∧ places > 20000) := by omega
  clear ha
  rcases h3 with hm | ⟨hm, h4⟩ | ⟨hm, h4, h5⟩
  · rw [decide_eq_false hm] at IM
    clear hm
    go_enter Tryd.func43, Tryd.ntmps43
    go_wp2_with (first
      | (go_at_call 16; rw [HW0.out]; (with_reducible refine (C1.out).mono ?_); rintro e w2 ⟨rfl, hb0⟩; have D := Lib.hid hb0; obtain ⟨⟨p0, p1, p2⟩, R2⟩ := KB.out _ D.out; have t0 := R2.at_ 0 rfl; have t1 := R2.at_ 1 rfl; have t2 := R2.at_ 2 rfl; have f0 := R2.frozen 0; have f1 := R2.frozen 1; have f2 := R2.frozen 2; have R2 := Lib.hid R2)
      | (go_at_call 72; (with_reducible refine (IM.out _).mono ?_); rintro e w3 ⟨rfl, rfl⟩))
    exact bodyPost_ret (v := .tuple #[.agg #[.bool false, .slice none 0 0, .int .i64 0], .bool false, .int .i64 1]) (by simp [results, Tryd.results43, go_sem, t0, t1, t2]) rfl
      (RetCt.none (below3 (D0.out.trans (D.out.mono D0.out.size)) (by omega) _ _ _))
  · rw [decide_eq_true hm] at IM
    clear hm
    go_enter Tryd.func43, Tryd.ntmps43
    go_wp2_with (first
      | (go_at_call 16; rw [HW0.out]; (with_reducible refine (C1.out).mono ?_); rintro e w2 ⟨rfl, hb0⟩; have D := Lib.hid hb0; obtain ⟨⟨p0, p1, p2⟩, R2⟩ := KB.out _ D.out; have t0 := R2.at_ 0 rfl; have t1 := R2.at_ 1 rfl; have t2 := R2.at_ 2 rfl; have f0 := R2.frozen 0; have f1 := R2.frozen 1; have f2 := R2.frozen 2; have R2 := Lib.hid R2)
      | (go_at_call 72; (with_reducible refine (IM.out _).mono ?_); rintro e w3 ⟨rfl, rfl⟩))
    exact bodyPost_ret (v := .tuple #[.agg #[.bool false, .slice none 0 0, .int .i64 0], .bool false, .int .i64 1]) (by simp [results, Tryd.results43, go_sem, t0, t1, t2]) rfl
      (RetCt.none (below3 (D0.out.trans (D.out.mono D0.out.size)) (by omega) _ _ _))
  · rw [decide_eq_true hm] at IM
    clear hm
    go_enter Tryd.func43, Tryd.ntmps43
    go_wp2_with (first
      | (go_at_call 16; rw [HW0.out]; (with_reducible refine (C1.out).mono ?_); rintro e w2 ⟨rfl, hb0⟩; have D := Lib.hid hb0; obtain ⟨⟨p0, p1, p2⟩, R2⟩ := KB.out _ D.out; have t0 := R2.at_ 0 rfl; have t1 := R2.at_ 1 rfl; have t2 := R2.at_ 2 rfl; have f0 := R2.frozen 0; have f1 := R2.frozen 1; have f2 := R2.frozen 2; have R2 := Lib.hid R2)
      | (go_at_call 72; (with_reducible refine (IM.out _).mono ?_); rintro e w3 ⟨rfl, rfl⟩))
    exact bodyPost_ret (v := .tuple #[.agg #[.bool false, .slice none 0 0, .int .i64 0], .bool false, .int .i64 1]) (by simp [results, Tryd.results43, go_sem, t0, t1, t2]) rfl
      (RetCt.none (below3 (D0.out.trans (D.out.mono D0.out.size)) (by omega) _ _ _))
set_option maxRecDepth 100000 in
theorem Cut_same (v : Value) (d : Dy) (places mode : Int) (w : World) (h : DV w v d) (he : d.er = 0) (hm : 0 ≤ mode ∧ mode ≤ 4) (hp : -20000 ≤ places ∧ places ≤ 20000) (hs : d.m = 0 ∨ places ≤ d.x) (hT : TabD w) : Calls Tryd.prog 43 #[v, .int .i64 places, .int .i64 mode] w (RetCt w ⟨0, d⟩ false) := by
  have H := Lib.hid h
  have C1 : ∀ W, Below w.heap.size w W → Calls Tryd.prog 16 #[v] W (DC.RetB W (.int .i64 d.er)) := fun W hW => Check_d v d W (h.below hW)
  have eS : Shf d 0 = ⟨0, d⟩ := by
    have g := h.good he
    unfold Shf
    rw [if_neg (by simpa using he), if_neg (by omega), Int.add_zero]
    exact fin_self he fun _ => ⟨g.2.1, g.2.2⟩
  obtain ⟨b1, A1, n1, c1, x1, l1, rfl, -, -, -, -, g1, -⟩ := h
  obtain ⟨W0, hW0, D0, KB⟩ := box1 w b1 A1 n1 c1 x1
  have C1 := Lib.hid (C1 W0 D0)
  have IM : Hid (∀ W, Calls Tryd.prog 72 #[.int .i64 mode] W (fun e w' => e = .returned (.bool (decide (0 ≤ mode ∧ mode ≤ 4))) ∧ W = w')) := fun W => isMode_c mode W
  rw [decide_eq_true hm] at IM
  have IZ : Hid (∀ W, Calls Tryd.prog 80 #[.agg #[.bool b1, .slice A1 n1 c1, .int .i64 x1]] W (DC.RetB W (.bool (decide (n1 = 0))))) := fun W => isZero_c b1 A1 n1 c1 x1 W
  have SH : Hid (∀ W, Below W0.heap.size W0 W → Calls Tryd.prog 33 #[.agg #[.bool b1, .slice A1 n1 c1, .int .i64 x1], .int .i64 0] W (RetD W ⟨0, d⟩)) := fun W hW => by
    have := Shift_d _ d 0 W ((H.out.below D0).below hW) ((hT.below D0).below hW)
    rwa [eS] at this
  have KB := Lib.hid KB
  have D0 := Lib.hid D0
  have HW0 := Lib.hid hW0
  have g := g1 he
  have ez := gv_zero g
  have ex := g.2.2.1
  rw [he] at C1
  have h4 : ¬ places < -20000 := by omega
  have h5 : ¬ places > 20000 := by omega
  have hs2 : n1 = 0 ∨ (n1 ≠ 0 ∧ x1 ≥ places) := by
    by_cases h : n1 = 0
    · exact .inl h
    · right
      refine ⟨h, ?_⟩
      rcases hs with h2 | h2
      · exact absurd (ez.2 h2) h
      · omega
  clear hW0 g1 he hm hp hs hT g ez ex eS H
  rcases hs2 with rfl | ⟨h6, h7⟩
  · rw [show decide (0 = 0) = true from rfl] at IZ
    go_enter Tryd.func43, Tryd.ntmps43
    go_wp2_with (first
      | (go_at_call 16; rw [HW0.out]; (with_reducible refine (C1.out).mono ?_); rintro e w2 ⟨rfl, hb0⟩; have D := Lib.hid hb0; obtain ⟨⟨p0, p1, p2⟩, R2⟩ := KB.out _ D.out)
      | (go_at_call 72; (with_reducible refine (IM.out _).mono ?_); rintro e w3 ⟨rfl, rfl⟩)
      | (go_at_call 80; (with_reducible refine (IZ.out _).mono ?_); rintro e w4 ⟨rfl, hb0⟩; have D := Lib.hid (D.out.trans (hb0.mono D.out.size)); obtain ⟨⟨p0, p1, p2⟩, R2⟩ := KB.out _ D.out)
      | (go_at_call 33; (with_reducible refine (SH.out _ D.out).mono ?_); rintro e w5 ⟨b5, A5, n5, c5, x5, rfl, hv5, hb0⟩; have s := hb0.alloc hb0.size (.cells #[.bool b5, .slice A5 n5 c5, .int .i64 x5] 25); have D := Lib.hid (D.out.trans (s.mono D.out.size)); have hv6 := hv5.below (al1 w5 (.cells #[.bool b5, .slice A5 n5 c5, .int .i64 x5] 25)); obtain ⟨-, R2⟩ := KB.out _ D.out; have t0 := R2.at_ 0 rfl; have t1 := R2.at_ 1 rfl; have t2 := R2.at_ 2 rfl; have f0 := R2.frozen 0; have f1 := R2.frozen 1; have f2 := R2.frozen 2; have R2 := Lib.hid R2))
    exact bodyPost_ret (v := .tuple #[.agg #[.bool b5, .slice A5 n5 c5, .int .i64 x5], .bool false, .int .i64 0]) (by simp [results, Tryd.results43, go_sem, t0, t1, t2]) rfl
      ⟨_, _, _, _, _, rfl, hv6.set3 R2.out _ _ _ (by intro z h; cases h) (by intro z h; cases h), below3 (D0.out.trans (D.out.mono D0.out.size)) (by omega) _ _ _⟩
  · rw [show decide (n1 = 0) = false by simp [h6]] at IZ
    clear h6
    go_enter Tryd.func43, Tryd.ntmps43
    go_wp2_with (first
      | (go_at_call 16; rw [HW0.out]; (with_reducible refine (C1.out).mono ?_); rintro e w2 ⟨rfl, hb0⟩; have D := Lib.hid hb0; obtain ⟨⟨p0, p1, p2⟩, R2⟩ := KB.out _ D.out)
      | (go_at_call 72; (with_reducible refine (IM.out _).mono ?_); rintro e w3 ⟨rfl, rfl⟩)
      | (go_at_call 80; (with_reducible refine (IZ.out _).mono ?_); rintro e w4 ⟨rfl, hb0⟩; have D := Lib.hid (D.out.trans (hb0.mono D.out.size)); obtain ⟨⟨p0, p1, p2⟩, R2⟩ := KB.out _ D.out)
      | (go_at_call 33; (with_reducible refine (SH.out _ D.out).mono ?_); rintro e w5 ⟨b5, A5, n5, c5, x5, rfl, hv5, hb0⟩; have s := hb0.alloc hb0.size (.cells #[.bool b5, .slice A5 n5 c5, .int .i64 x5] 25); have D := Lib.hid (D.out.trans (s.mono D.out.size)); have hv6 := hv5.below (al1 w5 (.cells #[.bool b5, .slice A5 n5 c5, .int .i64 x5] 25)); obtain ⟨-, R2⟩ := KB.out _ D.out; have t0 := R2.at_ 0 rfl; have t1 := R2.at_ 1 rfl; have t2 := R2.at_ 2 rfl; have f0 := R2.frozen 0; have f1 := R2.frozen 1; have f2 := R2.frozen 2; have R2 := Lib.hid R2))
    exact bodyPost_ret (v := .tuple #[.agg #[.bool b5, .slice A5 n5 c5, .int .i64 x5], .bool false, .int .i64 0]) (by simp [results, Tryd.results43, go_sem, t0, t1, t2]) rfl
      ⟨_, _, _, _, _, rfl, hv6.set3 R2.out _ _ _ (by intro z h; cases h) (by intro z h; cases h), below3 (D0.out.trans (D.out.mono D0.out.size)) (by omega) _ _ _⟩
set_option maxRecDepth 100000 in
set_option maxHeartbeats 4000000 in
theorem Cut_lost (v : Value) (d : Dy) (places mode : Int) (w : World) (h : DV w v d) (he : d.er = 0) (hm : 0 ≤ mode ∧ mode ≤ 4) (hp : -20000 ≤ places ∧ places ≤ 20000) (hs : d.m ≠ 0 ∧ d.x < places) (hT : TabD w) :
    Calls Tryd.prog 43 #[v, .int .i64 places, .int .i64 mode] w (RetCt w (fin (sgm (ng d) (cq d places mode)) places) (decide ((fin (sgm (ng d) (cq d places mode)) places).e = 0))) := by
  have C1 : ∀ W, Below w.heap.size w W → Calls Tryd.prog 16 #[v] W (DC.RetB W (.int .i64 d.er)) := fun W hW => Check_d v d W (h.below hW)
  obtain ⟨b1, A1, n1, c1, x1, l1, rfl, -, -, -, -, g1, -⟩ := h
  obtain ⟨W0, hW0, D0, KB⟩ := box1 w b1 A1 n1 c1 x1
  have C1 := Lib.hid (C1 W0 D0)
  have IM : Hid (∀ W, Calls Tryd.prog 72 #[.int .i64 mode] W (fun e w' => e = .returned (.bool (decide (0 ≤ mode ∧ mode ≤ 4))) ∧ W = w')) := fun W => isMode_c mode W
  rw [decide_eq_true hm] at IM
  have IZ : Hid (∀ W, Calls Tryd.prog 80 #[.agg #[.bool b1, .slice A1 n1 c1, .int .i64 x1]] W (DC.RetB W (.bool (decide (n1 = 0))))) := fun W => isZero_c b1 A1 n1 c1 x1 W
  have KB := Lib.hid KB
  have g := g1 he
  have ez := gv_zero g
  have ex := g.2.2.1
  have eb := g.2.1
  have hx := g.2.2.2.2.2.2.2
  have hz := abs_small g.2.2.2.2.2
  rw [he] at C1
  rw [show decide (n1 = 0) = false by simp; exact fun h => hs.1 (ez.1 h)] at IZ
  have h4 : ¬ places < -20000 := by omega
  have h5 : ¬ places > 20000 := by omega
  have h7 : ¬ x1 ≥ places := by omega
  have i1 : IntKind.i64.wrap (x1 - places) = x1 - places := IntWalk.i64_in _ (by omega)
  have hk : d.x - places + 1 ≤ 0 := by omega
  -- what is kept is no more than it was
  have hH : 0 ≤ sh (d.m.natAbs : Int) (d.x - places + 1) ∧ sh (d.m.natAbs : Int) (d.x - places + 1) < 4294967296 ^ 400 := by
    refine ⟨sh_pos (by omega) _, ?_⟩
    unfold sh
    split
    · rw [show (d.x - places + 1).toNat = 0 by omega, Int.pow_zero, Int.mul_one]; exact hz
    · have h1 := two_pos' (-(d.x - places + 1)).toNat
      exact Int.lt_of_le_of_lt (Int.ediv_le_self _ (by omega)) hz
  have SP : Hid (∀ W, Below W0.heap.size W0 W → Calls Tryd.prog 81 #[.slice A1 n1 c1, .int .i64 (x1 - places)] W (RetSp W (sh (d.m.natAbs : Int) (d.x - places + 1) / 2) (decide (sh (d.m.natAbs : Int) (d.x - places + 1) % 2 = 1)) (lo (d.m.natAbs : Int) (d.x - places + 1)))) := fun W hW => by
    rw [ex]
    exact split_c _ _ (d.x - places) W ((g.pv.below D0).below hW) (by omega) (by omega) hH.2 ((hT.below D0).below hW)
  have hq' : ∀ q, q = cq d places mode → 0 ≤ q ∧ q < 4294967296 ^ 400 := fun q hq => by
    rw [hq]; unfold cq
    generalize sh (d.m.natAbs : Int) (d.x - places + 1) = H at *
    have h6 : (4294967296 : Int) ^ 1 ≤ 4294967296 ^ 400 := pow_mono (by decide)
    generalize (4294967296 : Int) ^ 400 = c400 at *
    split <;> omega
  unfold cq at *
  obtain ⟨H, hHe⟩ : ∃ H, sh (d.m.natAbs : Int) (d.x - places + 1) = H := ⟨_, rfl⟩
  obtain ⟨m, hme⟩ : ∃ m, lo (d.m.natAbs : Int) (d.x - places + 1) = m := ⟨_, rfl⟩
  rw [hHe, hme] at SP hq' ⊢
  rw [hHe] at hH
  obtain ⟨hf, hfe⟩ : ∃ hf, decide (H % 2 = 1) = hf := ⟨_, rfl⟩
  obtain ⟨u, hu⟩ : ∃ u, up (ng d) (decide (H / 2 % 2 = 1)) hf m mode = u := ⟨_, rfl⟩
  have AW : Hid (∀ W, Calls Tryd.prog 82 #[.agg #[.bool hf, .bool m], .bool b1, .bool (decide (H / 2 % 2 = 1)), .int .i64 mode] W (DC.RetB W (.bool u))) := fun W => by
    have := away_c hf m b1 (decide (H / 2 % 2 = 1)) mode W
    rw [eb] at this ⊢
    rwa [show up (decide (d.m < 0)) (decide (H / 2 % 2 = 1)) hf m mode = u from hu] at this
  rw [hfe] at SP hq' ⊢
  rw [hu] at hq' ⊢
  obtain ⟨q, hqe⟩ : ∃ q, H / 2 = q := ⟨_, rfl⟩
  rw [hqe] at SP AW hq' ⊢
  have IO : Hid (∀ W A n c, NV W (.slice A n c) q → Calls Tryd.prog 83 #[.slice A n c] W (fun e w' => e = .returned (.bool (decide (q % 2 = 1))) ∧ W = w')) := fun W A n c hv => isOdd_c A n c q W hv
  have OF : Hid (∀ W, Calls Tryd.prog 52 #[.int .u64 1] W (RetV W 1)) := fun W => Of_c 1 W (by omega)
  have q2 : 0 ≤ q ∧ q < 4294967296 ^ 400 := by
    generalize (4294967296 : Int) ^ 400 = c400 at *
    omega
  have AD : Hid (∀ W A n c A' n' c', u = true → NV W (.slice A n c) q → NV W (.slice A' n' c') 1 → Calls Tryd.prog 84 #[.slice A n c, .slice A' n' c'] W (RetP W 0 (q + 1))) := fun W A n c A' n' c' hu g1 g2 => by
    have q1 := g1.pv (Int.lt_of_lt_of_le q2.2 p400_big)
    rw [erz_0 q2.2] at q1
    have q3 := g2.pv (small_big (by decide))
    rw [erz0 (by decide)] at q3
    exact Add_p q1 q3
  have MU : Hid (∀ W A n c y, y = (if u = true then q + 1 else q) → Below W0.heap.size W0 W → NV W (.slice A n c) y → Calls Tryd.prog 85 #[.bool b1, .slice A n c, .int .i64 places] W (RetD W (fin (sgm (ng d) (if u = true then q + 1 else q)) places))) := fun W A n c y hy hW hv => by
    have k := hq' _ rfl
    rw [← hy] at k ⊢
    have q1 := hv.pv (Int.lt_of_lt_of_le k.2 p400_big)
    rw [erz_0 k.2] at q1
    have := multiple_c b1 A n c y places W q1 (by omega) ((hT.below D0).below hW)
    rw [eb] at this ⊢
    exact this
  generalize fin (sgm (ng d) (if u = true then q + 1 else q)) places = r at *
  have D0 := Lib.hid D0
  have HW0 := Lib.hid hW0
  clear hW0 g1 he hm hp hs hT g ez ex eb hx hz hk hH hq' hHe hme hfe hu hqe q2
  go_enter Tryd.func43, Tryd.ntmps43
  go_upto_region 10 with (first
    | (go_at_call 16; rw [HW0.out]; (with_reducible refine (C1.out).mono ?_); rintro e w2 ⟨rfl, hb0⟩; have D := Lib.hid hb0; obtain ⟨⟨p0, p1, p2⟩, R2⟩ := KB.out _ D.out)
    | (go_at_call 72; (with_reducible refine (IM.out _).mono ?_); rintro e w3 ⟨rfl, rfl⟩)
    | (go_at_call 80; (with_reducible refine (IZ.out _).mono ?_); rintro e w4 ⟨rfl, hb0⟩; have D := Lib.hid (D.out.trans (hb0.mono D.out.size)); obtain ⟨⟨p0, p1, p2⟩, R2⟩ := KB.out _ D.out)
    | (go_at_call 81; (with_reducible refine (SP.out _ D.out).mono ?_); rintro e w5 ⟨A5, n5, c5, rfl, hv5, hb5⟩; have D := Lib.hid (D.out.trans (hb5.mono D.out.size))))
  have N8 := Blk.new w5 105 #[.bool hf, .bool m]
  have D6 := D.out.alloc D.out.size (.cells #[.bool hf, .bool m] 105)
  have V6 := hv5.below (al1 w5 (.cells #[.bool hf, .bool m] 105))
  obtain ⟨w6, hw6⟩ : ∃ w6, w5.alloc (.cells #[.bool hf, .bool m] 105) = w6 := ⟨_, rfl⟩
  obtain ⟨g8, hg8⟩ : ∃ g8, w5.heap.size = g8 := ⟨_, rfl⟩
  rw [hw6] at N8 D6 V6 ⊢
  rw [hg8] at N8 ⊢
  have D := Lib.hid D6
  clear hw6 hg8 D6 hv5 hb5 R2 p0 p1 p2
  obtain ⟨⟨p0, p1, p2⟩, R2⟩ := KB.out _ D.out
  have n0 := N8.at_ 0 rfl; have n1' := N8.at_ 1 rfl
  have V9 : NV w6.drew (.slice A5 n5 c5) q := V6
  (refine wp_region_L (S := fun w' => (w'.cell? ⟨g8, 0, none⟩ = some (.bool hf) ∧ w'.cell? ⟨g8, 1, none⟩ = some (.bool m)) ∧ w'.cell? ⟨w.heap.size, 0, none⟩ = some (.bool b1)) (nl := 1000000) (by kernel_rfl) ?_ (fun hHeld => ?_); focus (exact ⟨⟨n0, n1'⟩, p0⟩))
  (refine wpAnyL_take (i := 0) (oi := _) (v := ?_) rfl (by kernel_rfl) (by kernel_rfl) (by kernel_rfl) (fun _ _ _ h => h) (Or.inl ⟨by first | rfl | kernel_rfl, ?hy9⟩) (by assumption) ?rs9; (case hy9 => (intro w hSw; (try dsimp only at hSw); go_simp; first | done | with_reducible rfl)); case' rs9 => (simp only [List.getElem_toArray, List.getElem_cons_zero, List.getElem_cons_succ, Act.put, List.setIfInBounds_toArray, List.set_cons_zero, List.set_cons_succ])); (refine wpAnyL_take (i := 1) (oi := _) (v := ?_) rfl (by kernel_rfl) (by kernel_rfl) (by kernel_rfl) (fun _ _ _ h => h) (Or.inl ⟨by first | rfl | kernel_rfl, ?hy10⟩) (by assumption) ?rs10; (case hy10 => (intro w hSw; (try dsimp only at hSw); go_simp; first | done | with_reducible rfl)); case' rs10 => (simp only [List.getElem_toArray, List.getElem_cons_zero, List.getElem_cons_succ, Act.put, List.setIfInBounds_toArray, List.set_cons_zero, List.set_cons_succ])); (refine wpAnyL_take (i := 2) (oi := _) (v := ?_) rfl (by kernel_rfl) (by kernel_rfl) (by kernel_rfl) (fun _ _ _ h => h) (Or.inl ⟨by first | rfl | kernel_rfl, ?hy11⟩) (by assumption) ?rs11; (case hy11 => (intro w hSw; (try dsimp only at hSw); go_simp; first | done | with_reducible rfl)); case' rs11 => (simp only [List.getElem_toArray, List.getElem_cons_zero, List.getElem_cons_succ, Act.put, List.setIfInBounds_toArray, List.set_cons_zero, List.set_cons_succ])); (refine wpAnyL_take (i := 3) (oi := _) (v := ?_) rfl (by kernel_rfl) (by kernel_rfl) (by kernel_rfl) (fun _ _ _ h => h) (Or.inl ⟨by first | rfl | kernel_rfl, ?hy12⟩) (by assumption) ?rs12; (case hy12 => (intro w hSw; (try dsimp only at hSw); go_simp; first | done | with_reducible rfl)); case' rs12 => (simp only [List.getElem_toArray, List.getElem_cons_zero, List.getElem_cons_succ, Act.put, List.setIfInBounds_toArray, List.set_cons_zero, List.set_cons_succ])); (refine wpAnyL_take (i := 5) (oi := _) (v := ?_) rfl (by kernel_rfl) (by kernel_rfl) (by kernel_rfl) (fun _ _ _ h => h) (Or.inl ⟨by first | rfl | kernel_rfl, ?hy13⟩) (by assumption) ?rs13; (case hy13 => (intro w hSw; (try dsimp only at hSw); go_simp; first | done | with_reducible rfl)); case' rs13 => (simp only [List.getElem_toArray, List.getElem_cons_zero, List.getElem_cons_succ, Act.put, List.setIfInBounds_toArray, List.set_cons_zero, List.set_cons_succ])); skip
  (refine wpAnyL_one (i := 4) (o := _) (by kernel_rfl) rfl (fun K hK => ?_); clear hHeld; simp only [List.getElem_toArray, List.getElem_cons_zero, List.getElem_cons_succ]; go_simp; (go_at_call 83; (with_reducible refine (IO.out _ _ _ _ V9).mono ?_); rintro e w7 ⟨rfl, rfl⟩); refine hK.out _ _ ?_ (fun hHeld => ?_); focus (intro _; exact ⟨⟨n0, n1'⟩, p0⟩)); have hHeld := hHeld (by decide); clear hK K; (try simp only [Act.put, List.setIfInBounds_toArray, List.set_cons_zero, List.set_cons_succ])
  (refine wpAnyL_one (i := 6) (o := _) (by kernel_rfl) rfl (fun K hK => ?_); clear hHeld; simp only [List.getElem_toArray, List.getElem_cons_zero, List.getElem_cons_succ]; go_simp; (go_at_call 82; (with_reducible refine (AW.out _).mono ?_); rintro e w8 ⟨rfl, hb8⟩; have D := Lib.hid (D.out.drew.trans (hb8.mono D.out.size)); have N8 := N8.drew.below hb8 N8.lt; have V8 := V9.below hb8; obtain ⟨⟨p0, p1, p2⟩, R2⟩ := KB.out _ D.out; have n0 := N8.at_ 0 rfl; have n1' := N8.at_ 1 rfl); refine hK.out _ _ ?_ (fun hHeld => ?_); focus (intro _; exact ⟨⟨n0, n1'⟩, p0⟩)); have hHeld := hHeld (by decide); clear hK K; (try simp only [Act.put, List.setIfInBounds_toArray, List.set_cons_zero, List.set_cons_succ])
  refine wpAnyL_done (by kernel_rfl) ?_ _
  clear R2
  cases u
  · go_wp2_with (first
      | (go_at_call 85; (with_reducible refine (MU.out _ _ _ _ q rfl D.out V8).mono ?_); rintro e w9 ⟨b9, A9, n9, c9, x9, rfl, hv9, hb9⟩; have s := hb9.alloc hb9.size (.cells #[.bool b9, .slice A9 n9 c9, .int .i64 x9] 25); have D := Lib.hid (D.out.trans (s.mono D.out.size)); have hv10 := hv9.below (al1 w9 (.cells #[.bool b9, .slice A9 n9 c9, .int .i64 x9] 25)); obtain ⟨-, R2⟩ := KB.out _ D.out; have t0 := R2.at_ 0 rfl; have t1 := R2.at_ 1 rfl; have t2 := R2.at_ 2 rfl; have f0 := R2.frozen 0; have f1 := R2.frozen 1; have f2 := R2.frozen 2; have R2 := Lib.hid R2))
    exact bodyPost_ret (v := .tuple #[.agg #[.bool b9, .slice A9 n9 c9, .int .i64 x9], .bool (decide (r.e = 0)), .int .i64 r.e]) (by simp [results, Tryd.results43, go_sem, t0, t1, t2]; rfl) rfl
      ⟨_, _, _, _, _, rfl, hv10.set3 R2.out _ _ _ (by intro z h; cases h) (by intro z h; cases h), below3 (D0.out.trans (D.out.mono D0.out.size)) (by omega) _ _ _⟩
  · go_wp2_with (first
      | (go_at_call 52; (with_reducible refine (OF.out _).mono ?_); rintro e wa ⟨Aa, na, ca, rfl, hva, hba⟩; have V8 := V8.below hba; have D := Lib.hid (D.out.trans (hba.mono D.out.size)))
      | (go_at_call 84; (with_reducible refine (AD.out _ _ _ _ _ _ _ (by first | trivial | rfl) V8 hva).mono ?_); rintro e wb ⟨Ab, nb, cb, rfl, hpb, hvb, hbb⟩; have D := Lib.hid (D.out.trans (hbb.mono D.out.size)); obtain ⟨⟨p0, p1, p2⟩, -⟩ := KB.out _ D.out)
      | (go_at_call 85; (with_reducible refine (MU.out _ _ _ _ (q + 1) (by simp) D.out hvb).mono ?_); rintro e w9 ⟨b9, A9, n9, c9, x9, rfl, hv9, hb9⟩; have s := hb9.alloc hb9.size (.cells #[.bool b9, .slice A9 n9 c9, .int .i64 x9] 25); have D := Lib.hid (D.out.trans (s.mono D.out.size)); have hv10 := hv9.below (al1 w9 (.cells #[.bool b9, .slice A9 n9 c9, .int .i64 x9] 25)); obtain ⟨-, R2⟩ := KB.out _ D.out; have t0 := R2.at_ 0 rfl; have t1 := R2.at_ 1 rfl; have t2 := R2.at_ 2 rfl; have f0 := R2.frozen 0; have f1 := R2.frozen 1; have f2 := R2.frozen 2; have R2 := Lib.hid R2))
    exact bodyPost_ret (v := .tuple #[.agg #[.bool b9, .slice A9 n9 c9, .int .i64 x9], .bool (decide (r.e = 0)), .int .i64 r.e]) (by simp [results, Tryd.results43, go_sem, t0, t1, t2]; rfl) rfl
      ⟨_, _, _, _, _, rfl, hv10.set3 R2.out _ _ _ (by intro z h; cases h) (by intro z h; cases h), below3 (D0.out.trans (D.out.mono D0.out.size)) (by omega) _ _ _⟩
theorem Cut_d (v : Value) (d : Dy) (places mode : Int) (w : World) (h : DV w v d) (hT : TabD w) : Calls Tryd.prog 43 #[v, .int .i64 places, .int .i64 mode] w (RetCt w (CR d places mode) (CL d places mode)) := by
  unfold CL
  by_cases he : d.er = 0
  · by_cases ha : (0 ≤ mode ∧ mode ≤ 4) ∧ -20000 ≤ places ∧ places ≤ 20000
    · by_cases hs : d.m = 0 ∨ places ≤ d.x
      · have e : CR d places mode = ⟨0, d⟩ := by unfold CR; rw [if_neg (by simpa using he), if_neg (fun h => h ha), if_pos hs]
        rw [e, if_pos (.inr (.inr hs))]
        exact Cut_same v d places mode w h he ha.1 ha.2 hs hT
      · have e : CR d places mode = fin (sgm (ng d) (cq d places mode)) places := by unfold CR; rw [if_neg (by simpa using he), if_neg (fun h => h ha), if_neg hs]
        rw [e, if_neg (fun h => by rcases h with h | h | h; exact h he; exact h ha; exact hs h)]
        exact Cut_lost v d places mode w h he ha.1 ha.2 ⟨fun h => hs (.inl h), by omega⟩ hT
    · have e : CR d places mode = ⟨1, dz⟩ := by unfold CR; rw [if_neg (by simpa using he), if_pos ha]
      rw [e, if_pos (.inr (.inl ha))]
      exact Cut_arg v d places mode w h he ha
  · have e : CR d places mode = ⟨d.er, dz⟩ := by unfold CR; rw [if_pos he]
    rw [e, if_pos (.inl he)]
    exact Cut_err v d places mode w h he
end RC
end Go.Proofs.YtnlgkhgighhfjaaDoor

/-
  Package round: isDirection, nudge, Part.
-/
namespace Go.Proofs.YtnlgkhgighhfjaaDoor
set_option linter.unusedVariables false
set_option linter.unusedSimpArgs false
open Go.RowKit
set_option linter.unusedVariables false
set_option linter.unusedSimpArgs false
namespace RC
open L NC NK DC
open Z (Nz Tz cmpv)
/-- 0, 1 or -1 -/
def isdir (d : Dy) : Bool := decide (d.m = 0 ∨ (d.m.natAbs = 1 ∧ d.x = 0))
theorem isDirection_c (b : Bool) (A : Option Addr) (n c : Nat) (x : Int) (d : Dy) (w : World) (g : GV w b A n c x d) : Calls Tryd.prog 74 #[.agg #[.bool b, .slice A n c, .int .i64 x]] w (DC.RetB w (.bool (isdir d))) := by
  have hz := gv_zero g
  obtain ⟨⟨l, hs, Ll, nl, hl⟩, hb, hx, he, hc, hi⟩ := g
  subst hx
  obtain ⟨en, hcc⟩ := hs.len_
  have D0 := al1 w (.cells #[.bool b, .slice A n c, .int .i64 d.x] 25)
  obtain ⟨r, hr⟩ : ∃ r, isdir d = r := ⟨_, rfl⟩
  rw [hr]
  have hr' : r = decide (d.m = 0 ∨ (d.m.natAbs = 1 ∧ d.x = 0)) := hr.symm
  have HR := Lib.hid hr'
  have IZ : Hid (∀ W, Calls Tryd.prog 80 #[.agg #[.bool b, .slice A n c, .int .i64 d.x]] W (DC.RetB W (.bool (decide (n = 0))))) := fun W => isZero_c b A n c d.x W
  have X0 := BX.new w b A n c d.x
  obtain ⟨W0, hW0⟩ : ∃ W0, w.alloc (.cells #[.bool b, .slice A n c, .int .i64 d.x] 25) = W0 := ⟨_, rfl⟩
  rw [hW0] at X0 D0
  have KB : Hid (∀ W, Below W0.heap.size W0 W → BX W w.heap.size b A n c d.x) := fun W hW => X0.below hW
  have HW0 := Lib.hid hW0
  clear hr hr' hc hi hb he
  by_cases h0 : n = 0
  · have hm : d.m = 0 := hz.1 h0
    have HM := Lib.hid hm
    rw [show decide (n = 0) = true by simp [h0]] at IZ
    have D0 := Lib.hid D0
    clear hs Ll nl hl en hcc hz hm hW0 X0 h0
    go_enter Tryd.func74, Tryd.ntmps74
    go_wp2_with (first
      | (go_at_call 80; rw [HW0.out]; (with_reducible refine (IZ.out _).mono ?_); rintro e w2 ⟨rfl, hb0⟩; have D := Lib.hid hb0))
    go_ret
    exact ⟨ret_bool (by rw [HR.out, HM.out]; simp), D0.out.trans (D.out.mono D0.out.size)⟩
  · rw [show decide (n = 0) = false by simp [h0]] at IZ
    have hm : d.m ≠ 0 := fun h => h0 (hz.2 h)
    by_cases h1 : n = 1
    · obtain ⟨ad, c', e, hc', hb', hcell⟩ := hs.at_ 0 (by omega)
      injection e with e1 e2 e3
      subst e1
      rw [show ad.add 0 = ad from rfl] at hcell
      obtain ⟨y, hy⟩ : ∃ y, l.getD 0 0 = y := ⟨_, rfl⟩
      rw [hy] at hcell
      have hly : lv l = y := by
        match l, en, hy with
        | [a], _, hy => rw [← hy]; simp [lv]
        | [], en, _ => simp at en; omega
        | a :: a' :: t, en, _ => simp at en; omega
      have KC : Hid (∀ W, Below w.heap.size w W → W.cell? ad = some (.int .u32 y)) := fun W hW => (hW.cell hb').trans hcell
      have HM : Hid (d.m ≠ 0 ∧ (d.m.natAbs : Int) = y) := ⟨hm, by rw [← hl, hly]⟩
      have D0 := Lib.hid D0
      subst h1
      clear hs Ll nl hl hcc hz hm hW0 X0 h0 hcell hb' hc' hly hy e2 e3 en
      by_cases h2 : y = 1
      · have t1 : (y == 1) = true := by simp [h2]
        have HY := Lib.hid h2
        by_cases h3 : d.x = 0
        · have t2 : (d.x == 0) = true := by simp [h3]
          have H3 := Lib.hid h3
          clear h2 h3
          go_enter Tryd.func74, Tryd.ntmps74
          go_wp2_with (first
            | (go_at_call 80; rw [HW0.out]; (with_reducible refine (IZ.out _).mono ?_); rintro e w2 ⟨rfl, hb0⟩; have D := Lib.hid hb0; obtain ⟨p0, p1, p2⟩ := KB.out _ D.out; have kc := KC.out _ (D0.out.trans (D.out.mono D0.out.size))))
          go_ret
          exact ⟨ret_bool (by obtain ⟨a, b⟩ := HM.out; rw [HR.out]; have := HY.out; have := H3.out; symm; simp; omega), D0.out.trans (D.out.mono D0.out.size)⟩
        · have t2 : (d.x == 0) = false := by simp [h3]
          have H3 := Lib.hid h3
          clear h2 h3
          go_enter Tryd.func74, Tryd.ntmps74
          go_wp2_with (first
            | (go_at_call 80; rw [HW0.out]; (with_reducible refine (IZ.out _).mono ?_); rintro e w2 ⟨rfl, hb0⟩; have D := Lib.hid hb0; obtain ⟨p0, p1, p2⟩ := KB.out _ D.out; have kc := KC.out _ (D0.out.trans (D.out.mono D0.out.size))))
          go_ret
          exact ⟨ret_bool (by obtain ⟨a, b⟩ := HM.out; rw [HR.out]; have := HY.out; have := H3.out; symm; simp; omega), D0.out.trans (D.out.mono D0.out.size)⟩
      · have t1 : (y == 1) = false := by simp [h2]
        have HY := Lib.hid h2
        clear h2
        go_enter Tryd.func74, Tryd.ntmps74
        go_wp2_with (first
          | (go_at_call 80; rw [HW0.out]; (with_reducible refine (IZ.out _).mono ?_); rintro e w2 ⟨rfl, hb0⟩; have D := Lib.hid hb0; obtain ⟨p0, p1, p2⟩ := KB.out _ D.out; have kc := KC.out _ (D0.out.trans (D.out.mono D0.out.size))))
        go_ret
        exact ⟨ret_bool (by obtain ⟨a, b⟩ := HM.out; rw [HR.out]; have := HY.out; symm; simp; omega), D0.out.trans (D.out.mono D0.out.size)⟩
    · have t1 : ((n : Int) == 1) = false := by simp; omega
      have hbig : (1 : Int) < (d.m.natAbs : Int) := by
        have h2 : l ≠ [] := by rintro rfl; exact h0 en
        have := lv_ge Ll nl h2
        have h3 : (4294967296 : Int) ^ 1 ≤ 4294967296 ^ (l.length - 1) := pow_mono (by omega)
        rw [hl] at this
        omega
      have HM := Lib.hid hbig
      have D0 := Lib.hid D0
      clear hs Ll nl hl en hcc hz hm hW0 X0 h0 h1 hbig
      go_enter Tryd.func74, Tryd.ntmps74
      go_wp2_with (first
        | (go_at_call 80; rw [HW0.out]; (with_reducible refine (IZ.out _).mono ?_); rintro e w2 ⟨rfl, hb0⟩; have D := Lib.hid hb0; obtain ⟨p0, p1, p2⟩ := KB.out _ D.out))
      go_ret
      exact ⟨ret_bool (by rw [HR.out]; have := HM.out; symm; simp; omega), D0.out.trans (D.out.mono D0.out.size)⟩
/-- nudged -/
def nz (b1 b2 : Bool) (z1 z2 : Int) : Int := if z2 = 0 then z1 else if z1 = 0 then 1 else if b1 = b2 then z1 * 18446744073709551616 + 1 else z1 * 18446744073709551616 - 1
def nx (z1 z2 x : Int) : Int := if z2 = 0 then x else if z1 = 0 then -10000 else x - 64
def nb (b1 b2 : Bool) (z1 z2 : Int) : Bool := if z2 = 0 then b1 else if z1 = 0 then b2 else b1
def RetN (w : World) (b : Bool) (z x : Int) (e : Ending) (w' : World) : Prop := ∃ A n c, e = .returned (.agg #[.bool b, .slice A n c, .int .i64 x]) ∧ PV w' (.slice A n c) 0 z ∧ Below w.heap.size w w'
theorem pv_set3 {w1 : World} {u : Value} {er z : Int} {b0 : Bool} {A0 : Option Addr} {n0 c0 : Nat} {x0 : Int} {B : Nat} (hv : PV w1 u er z)
    (hblk : Blk w1 B 25 #[.bool b0, .slice A0 n0 c0, .int .i64 x0]) (v0 v1 v2 : Value) :
    PV (((w1.setCell ⟨B, 0, none⟩ v0).setCell ⟨B, 1, none⟩ v1).setCell ⟨B, 2, none⟩ v2) u er z := by
  obtain ⟨l, h1, h2⟩ := hv
  have s1 := h1.setCell (hblk.at_ 0 rfl) (fun z h => by cases h) v0
  have B1 := hblk.set_ 0 v0
  have s2 := s1.setCell (u := .slice A0 n0 c0) (B1.at_ 1 (by simp)) (fun z h => by cases h) v1
  have B2 := B1.set_ 1 v1
  exact ⟨l, s2.setCell (u := .int .i64 x0) (B2.at_ 2 (by simp)) (fun z h => by cases h) v2, h2⟩
theorem pv_zero {w : World} {A : Option Addr} {n c : Nat} {z : Int} (h : PV w (.slice A n c) 0 z) : n = 0 ↔ z = 0 := by
  constructor
  · rintro rfl
    obtain ⟨l, l1, l2, l3, l4⟩ := h.nv
    have en := l1.len_.1
    have := List.length_eq_zero_iff.1 en.symm
    rw [this] at l4
    exact l4.symm
  · rintro rfl
    exact NV.zero h.nv
set_option maxRecDepth 100000 in
theorem nudge_c (b1 b2 : Bool) (A1 A2 : Option Addr) (n1 c1 n2 c2 : Nat) (x1 x2 z1 z2 : Int) (w : World) (h1 : PV w (.slice A1 n1 c1) 0 z1) (h2 : PV w (.slice A2 n2 c2) 0 z2) (hs : z1 < 4294967296 ^ 390) (hz2 : z2 = 0 ∨ z2 = 1) (hx : -10000 ≤ x1 ∧ x1 ≤ 10000) :
    Calls Tryd.prog 75 #[.agg #[.bool b1, .slice A1 n1 c1, .int .i64 x1], .agg #[.bool b2, .slice A2 n2 c2, .int .i64 x2]] w (RetN w (nb b1 b2 z1 z2) (nz b1 b2 z1 z2) (nx z1 z2 x1)) := by
  obtain ⟨W0, hW0, D0, KB⟩ := box3 w b1 b2 A1 A2 n1 c1 n2 c2 x1 x2
  have Z1 : Hid (∀ W, Calls Tryd.prog 80 #[.agg #[.bool b1, .slice A1 n1 c1, .int .i64 x1]] W (DC.RetB W (.bool (decide (n1 = 0))))) := fun W => isZero_c b1 A1 n1 c1 x1 W
  have Z2 : Hid (∀ W, Calls Tryd.prog 80 #[.agg #[.bool b2, .slice A2 n2 c2, .int .i64 x2]] W (DC.RetB W (.bool (decide (n2 = 0))))) := fun W => isZero_c b2 A2 n2 c2 x2 W
  have P1 : Hid (∀ W, Below W0.heap.size W0 W → PV W (.slice A1 n1 c1) 0 z1) := fun W hW => (h1.below D0).below hW
  have P2 : Hid (∀ W, Below W0.heap.size W0 W → PV W (.slice A2 n2 c2) 0 z2) := fun W hW => (h2.below D0).below hW
  have e1 := pv_zero h1
  have e2 := pv_zero h2
  have s1 := h1.small.1
  have KB := Lib.hid KB
  have D0 := Lib.hid D0
  have HW0 := Lib.hid hW0
  unfold nb nz nx
  by_cases k2 : z2 = 0
  · rw [if_pos k2, if_pos k2, if_pos k2]
    rw [show decide (n2 = 0) = true by simp [e2.2 k2]] at Z2
    clear hW0 h1 h2 hs hz2 hx e1 e2 s1 k2
    go_enter Tryd.func75, Tryd.ntmps75
    go_wp2_with (first
      | (go_at_call 80; rw [HW0.out]; (with_reducible refine (Z2.out _).mono ?_); rintro e w2 ⟨rfl, hb0⟩; have D := Lib.hid hb0; obtain ⟨⟨⟨p0, p1, p2⟩, q0, q1, q2⟩, R2⟩ := KB.out _ D.out; have t0 := R2.at_ 0 rfl; have t1 := R2.at_ 1 rfl; have t2 := R2.at_ 2 rfl; have f0 := R2.frozen 0; have f1 := R2.frozen 1; have f2 := R2.frozen 2; have R2 := Lib.hid R2))
    exact bodyPost_ret (v := .agg #[.bool b1, .slice A1 n1 c1, .int .i64 x1]) (by simp [results, Tryd.results75, go_sem, t0, t1, t2]) rfl
      ⟨_, _, _, rfl, pv_set3 (P1.out _ D.out) R2.out _ _ _, below3 (D0.out.trans (D.out.mono D0.out.size)) (by omega) _ _ _⟩
  · rw [if_neg k2, if_neg k2, if_neg k2]
    have k3 : z2 = 1 := by omega
    subst k3
    rw [show decide (n2 = 0) = false by simp; exact fun h => k2 (e2.1 h)] at Z2
    by_cases k1 : z1 = 0
    · rw [if_pos k1, if_pos k1, if_pos k1]
      rw [show decide (n1 = 0) = true by simp [e1.2 k1]] at Z1
      clear hW0 h1 h2 hs hz2 hx e1 e2 s1 k1 k2
      go_enter Tryd.func75, Tryd.ntmps75
      go_wp2_with (first
        | (go_at_call 80; rw [HW0.out]; (with_reducible refine (Z2.out _).mono ?_); rintro e w2 ⟨rfl, hb0⟩; have D := Lib.hid hb0; obtain ⟨⟨⟨p0, p1, p2⟩, q0, q1, q2⟩, R2⟩ := KB.out _ D.out)
        | (go_at_call 80; (with_reducible refine (Z1.out _).mono ?_); rintro e w3 ⟨rfl, hb0⟩; have D := Lib.hid (D.out.trans (hb0.mono D.out.size)); obtain ⟨⟨⟨p0, p1, p2⟩, q0, q1, q2⟩, R2⟩ := KB.out _ D.out; have t0 := R2.at_ 0 rfl; have t1 := R2.at_ 1 rfl; have t2 := R2.at_ 2 rfl; have f0 := R2.frozen 0; have f1 := R2.frozen 1; have f2 := R2.frozen 2; have R2 := Lib.hid R2))
      exact bodyPost_ret (v := .agg #[.bool b2, .slice A2 n2 c2, .int .i64 (-10000)]) (by simp [results, Tryd.results75, go_sem, t0, t1, t2]) rfl
        ⟨_, _, _, rfl, pv_set3 (P2.out _ D.out) R2.out _ _ _, below3 (D0.out.trans (D.out.mono D0.out.size)) (by omega) _ _ _⟩
    · rw [if_neg k1, if_neg k1, if_neg k1]
      rw [show decide (n1 = 0) = false by simp; exact fun h => k1 (e1.1 h)] at Z1
      have i1 : IntKind.i64.wrap (x1 - 64) = x1 - 64 := IntWalk.i64_in _ (by omega)
      have hbig : 0 < z1 * 18446744073709551616 ∧ z1 * 18446744073709551616 + 1 < 4294967296 ^ 400 := by
        have h3 : (4294967296 : Int) ^ 392 = 4294967296 ^ 390 * 18446744073709551616 := by rw [show (18446744073709551616 : Int) = 4294967296 ^ 2 by decide, ← Int.pow_add]
        have h4 : (4294967296 : Int) ^ 393 = 4294967296 ^ 392 * 4294967296 := Int.pow_succ _ _
        have h5 : (4294967296 : Int) ^ 393 ≤ 4294967296 ^ 400 := pow_mono (by decide)
        have h6 := pow_pos 390
        generalize (4294967296 : Int) ^ 400 = c400 at *
        generalize (4294967296 : Int) ^ 393 = c393 at *
        generalize (4294967296 : Int) ^ 392 = c392 at *
        generalize (4294967296 : Int) ^ 390 = c390 at *
        omega
      have SH : Hid (∀ W, Below W0.heap.size W0 W → Calls Tryd.prog 92 #[.slice A1 n1 c1, .int .i64 64] W (RetSh W 0 (z1 * 18446744073709551616) false)) := fun W hW => by
        have := sh_up (P1.out W hW) 64 (by omega)
        rw [show (2 : Int) ^ 64 = 18446744073709551616 by decide] at this
        exact this
      obtain ⟨zz, hzz⟩ : ∃ zz, z1 * 18446744073709551616 = zz := ⟨_, rfl⟩
      rw [hzz] at hbig SH ⊢
      have ez : erz zz = 0 := if_pos (by omega)
      have AD : Hid (∀ W A n c, Below W0.heap.size W0 W → NV W (.slice A n c) zz → Calls Tryd.prog 84 #[.slice A n c, .slice A2 n2 c2] W (RetP W 0 (zz + 1))) := fun W A n c hW hv => by
        have q1 := hv.pv (Int.lt_of_lt_of_le (show zz < 4294967296 ^ 400 by omega) p400_big)
        rw [ez] at q1
        exact Add_p q1 (P2.out W hW)
      have SB : Hid (∀ W A n c, Below W0.heap.size W0 W → NV W (.slice A n c) zz → Calls Tryd.prog 104 #[.slice A n c, .slice A2 n2 c2] W (RetP W 0 (zz - 1))) := fun W A n c hW hv => by
        have q1 := hv.pv (Int.lt_of_lt_of_le (show zz < 4294967296 ^ 400 by omega) p400_big)
        rw [ez] at q1
        have := Sub_p q1 (P2.out W hW)
        have e3 : es 0 0 zz 1 = 0 := by
          unfold es
          rw [if_pos (show ee 0 0 = 0 by decide), if_neg (show ¬ zz < 1 by omega)]
        rw [e3, if_pos rfl] at this
        exact this
      have ez1 : erz (zz + 1) = 0 := if_pos hbig.2
      have ez2 : erz (zz - 1) = 0 := if_pos (by omega)
      have EZ := Lib.hid (And.intro ez1 ez2)
      clear hW0 h1 h2 hs hz2 hx e1 e2 s1 k1 k2 hbig ez ez1 ez2 hzz
      cases b1 <;> cases b2
      all_goals (
        go_enter Tryd.func75, Tryd.ntmps75
        go_wp2_with (first
          | (go_at_call 80; rw [HW0.out]; (with_reducible refine (Z2.out _).mono ?_); rintro e w2 ⟨rfl, hb0⟩; have D := Lib.hid hb0; obtain ⟨⟨⟨p0, p1, p2⟩, q0, q1, q2⟩, R2⟩ := KB.out _ D.out)
          | (go_at_call 80; (with_reducible refine (Z1.out _).mono ?_); rintro e w3 ⟨rfl, hb0⟩; have D := Lib.hid (D.out.trans (hb0.mono D.out.size)); obtain ⟨⟨⟨p0, p1, p2⟩, q0, q1, q2⟩, R2⟩ := KB.out _ D.out)
          | (go_at_call 92; (with_reducible refine (SH.out _ D.out).mono ?_); rintro e w4 ⟨A4, n4, c4, rfl, hv4, hb0⟩; have D := Lib.hid (D.out.trans (hb0.mono D.out.size)); obtain ⟨⟨⟨p0, p1, p2⟩, q0, q1, q2⟩, R2⟩ := KB.out _ D.out)
          | (go_at_call 84; (with_reducible refine (AD.out _ _ _ _ D.out hv4).mono ?_); rintro e w5 ⟨A5, n5, c5, rfl, hp5, hv5, hb0⟩; have D := Lib.hid (D.out.trans (hb0.mono D.out.size)); rw [EZ.out.1] at hp5; obtain ⟨⟨⟨p0, p1, p2⟩, q0, q1, q2⟩, R2⟩ := KB.out _ D.out; have t0 := R2.at_ 0 rfl; have t1 := R2.at_ 1 rfl; have t2 := R2.at_ 2 rfl; have f0 := R2.frozen 0; have f1 := R2.frozen 1; have f2 := R2.frozen 2; have R2 := Lib.hid R2)
          | (go_at_call 104; (with_reducible refine (SB.out _ _ _ _ D.out hv4).mono ?_); rintro e w5 ⟨A5, n5, c5, rfl, hp5, hv5, hb0⟩; have D := Lib.hid (D.out.trans (hb0.mono D.out.size)); rw [EZ.out.2] at hp5; obtain ⟨⟨⟨p0, p1, p2⟩, q0, q1, q2⟩, R2⟩ := KB.out _ D.out; have t0 := R2.at_ 0 rfl; have t1 := R2.at_ 1 rfl; have t2 := R2.at_ 2 rfl; have f0 := R2.frozen 0; have f1 := R2.frozen 1; have f2 := R2.frozen 2; have R2 := Lib.hid R2))
        exact bodyPost_ret (v := .agg #[.bool _, .slice A5 n5 c5, .int .i64 (x1 - 64)]) (by simp [results, Tryd.results75, go_sem, t0, t1, t2]) rfl
          ⟨_, _, _, rfl, pv_set3 hp5 R2.out _ _ _, below3 (D0.out.trans (D.out.mono D0.out.size)) (by omega) _ _ _⟩)
end RC
end Go.Proofs.YtnlgkhgighhfjaaDoor

/-
  Package round: Part.
-/
namespace Go.Proofs.YtnlgkhgighhfjaaDoor
set_option linter.unusedVariables false
set_option linter.unusedSimpArgs false
open Go.RowKit
set_option linter.unusedVariables false
set_option linter.unusedSimpArgs false
namespace RC
open L NC NK DC
open Z (Nz Tz cmpv)
def az (c d : Dy) : Int := nz (ng c) (ng d) (c.m.natAbs : Int) (d.m.natAbs : Int)
def ax (c d : Dy) : Int := nx (c.m.natAbs : Int) (d.m.natAbs : Int) c.x
def bz (c d : Dy) : Bool := nb (ng c) (ng d) (c.m.natAbs : Int) (d.m.natAbs : Int)
def PE (c d : Dy) (mode : Int) : Int := if c.er ≠ 0 then c.er else if d.er ≠ 0 then d.er else if ¬ ((0 ≤ mode ∧ mode ≤ 4) ∧ isdir d = true) then 1 else if 4294967296 ^ 390 ≤ (c.m.natAbs : Int) then 2 else 0
noncomputable def PX (c d : Dy) (mode : Int) : Int := if PE c d mode = 0 then rx (bz c d) (YY (bz c d) (sc (az c d) (ax c d)) mode) else 0
noncomputable def PL (c d : Dy) (mode : Int) : Bool := if PE c d mode = 0 then LL (sc (az c d) (ax c d)) else false
theorem limbs_390 {w : World} {A : Option Addr} {n c : Nat} {z : Int} (h : NV w (.slice A n c) z) : 390 < n ↔ 4294967296 ^ 390 ≤ z := by
  obtain ⟨l, h1, h2, h3, h4⟩ := h
  have en := h1.len_.1
  rw [en]
  constructor
  · intro h
    have hne : l ≠ [] := by rintro rfl; simp at h
    have := lv_ge h2 h3 hne
    have h5 : (4294967296 : Int) ^ 390 ≤ 4294967296 ^ (l.length - 1) := pow_mono (by omega)
    rw [← h4]; exact Int.le_trans h5 this
  · intro h
    rcases Nat.lt_or_ge 390 l.length with h5 | h5
    · exact h5
    · have a1 := lv_lt h2
      have a2 : (4294967296 : Int) ^ l.length ≤ 4294967296 ^ 390 := pow_mono h5
      rw [h4] at a1
      have := Int.lt_of_lt_of_le a1 a2
      omega
theorem nz_bd {b1 b2 : Bool} {z1 z2 : Int} (h0 : 0 ≤ z1) (h1 : z1 < 4294967296 ^ 390) (h2 : z2 = 0 ∨ z2 = 1) : 0 ≤ nz b1 b2 z1 z2 ∧ nz b1 b2 z1 z2 < 4294967296 ^ 400 := by
  have h3 : (4294967296 : Int) ^ 392 = 4294967296 ^ 390 * 18446744073709551616 := by rw [show (18446744073709551616 : Int) = 4294967296 ^ 2 by decide, ← Int.pow_add]
  have h4 : (4294967296 : Int) ^ 393 = 4294967296 ^ 392 * 4294967296 := Int.pow_succ _ _
  have h5 : (4294967296 : Int) ^ 393 ≤ 4294967296 ^ 400 := pow_mono (by decide)
  have h6 := pow_pos 390
  generalize (4294967296 : Int) ^ 400 = c400 at *
  generalize (4294967296 : Int) ^ 393 = c393 at *
  generalize (4294967296 : Int) ^ 392 = c392 at *
  generalize (4294967296 : Int) ^ 390 = c390 at *
  unfold nz
  split
  · omega
  · split
    · omega
    · split <;> omega
theorem isdir_z {d : Dy} (h : isdir d = true) : ((d.m.natAbs : Int) = 0 ∨ (d.m.natAbs : Int) = 1) := by
  unfold isdir at h
  rw [decide_eq_true_iff] at h
  omega
theorem nx_bd {z1 z2 x : Int} (h : -10000 ≤ x ∧ x ≤ 10000) : -20000 ≤ nx z1 z2 x ∧ nx z1 z2 x ≤ 20000 := by
  unfold nx; split
  · omega
  · split <;> omega
theorem tow_part {c d : Dy} (hc : Ok c) (h : isdir d = true) (hs : (c.m.natAbs : Int) < 4294967296 ^ 390) : ∃ r hf m, Tow (sc (az c d) (ax c d)) r hf m ∧ tow (sc (az c d) (ax c d)) = (r, hf, m) := by
  have k := nz_bd (b1 := ng c) (b2 := ng d) (by omega) hs (isdir_z h)
  obtain ⟨r, hf, m, t⟩ := tow_ex k.1 k.2 (nx_bd (z1 := (c.m.natAbs : Int)) (z2 := (d.m.natAbs : Int)) hc.2.2.2.2)
  exact ⟨r, hf, m, t, tow_eq t⟩
set_option maxRecDepth 100000 in
set_option maxHeartbeats 8000000 in
theorem Part_d (u v : Value) (c d : Dy) (mode : Int) (w : World) (h1 : DV w u c) (h2 : DV w v d) (hT : TabD w) : Calls Tryd.prog 41 #[u, v, .int .i64 mode] w (DC.RetB w (.tuple #[.int .u64 (PX c d mode), .bool (PL c d mode), .int .i64 (PE c d mode)])) := by
  have C1 : ∀ W, Below w.heap.size w W → Calls Tryd.prog 16 #[u] W (DC.RetB W (.int .i64 c.er)) := fun W hW => Check_d u c W (h1.below hW)
  have C2 : ∀ W, Below w.heap.size w W → Calls Tryd.prog 16 #[v] W (DC.RetB W (.int .i64 d.er)) := fun W hW => Check_d v d W (h2.below hW)
  obtain ⟨ba, Aa, na, ca, xa, la, rfl, -, -, -, -, g1, -⟩ := h1
  obtain ⟨bb, Ab, nb, cb, xb, lb, rfl, -, -, -, -, g2, -⟩ := h2
  obtain ⟨N1, N2, NS, D0⟩ := new2 w 25 25 #[.bool ba, .slice Aa na ca, .int .i64 xa] #[.bool bb, .slice Ab nb cb, .int .i64 xb] 0
  rw [World.drewN_zero] at N1 N2 NS D0
  obtain ⟨W0, hW0⟩ : ∃ W0, (w.alloc (.cells #[.bool ba, .slice Aa na ca, .int .i64 xa] 25)).alloc (.cells #[.bool bb, .slice Ab nb cb, .int .i64 xb] 25) = W0 := ⟨_, rfl⟩
  rw [hW0] at N1 N2 D0
  have KB : Hid (∀ W, Below W0.heap.size W0 W → BX W w.heap.size ba Aa na ca xa ∧ BX W (w.heap.size + 1) bb Ab nb cb xb) := fun W hW => ⟨BX.of (N1.below hW N1.lt), BX.of (N2.below hW N2.lt)⟩
  have C1 := Lib.hid (C1 W0 D0)
  have C2 : Hid (∀ W, Below W0.heap.size W0 W → Calls Tryd.prog 16 #[.agg #[.bool bb, .slice Ab nb cb, .int .i64 xb]] W (DC.RetB W (.int .i64 d.er))) := fun W hW => C2 W (D0.trans (hW.mono D0.size))
  have IM : Hid (∀ W, Calls Tryd.prog 72 #[.int .i64 mode] W (fun e w' => e = .returned (.bool (decide (0 ≤ mode ∧ mode ≤ 4))) ∧ W = w')) := fun W => isMode_c mode W
  have HW0 := Lib.hid hW0
  unfold PX PL
  obtain ⟨E0, hE0⟩ : ∃ E0, PE c d mode = E0 := ⟨_, rfl⟩
  rw [hE0]
  unfold PE at hE0
  obtain ⟨E, hE⟩ : ∃ E, c.er = E := ⟨_, rfl⟩
  obtain ⟨F', hF⟩ : ∃ F, d.er = F := ⟨_, rfl⟩
  rw [hE] at C1 hE0
  rw [hF] at C2 hE0
  by_cases h0 : E = 0
  · have t1 : (E != 0) = false := by simp [h0]
    rw [if_neg (by simpa using h0)] at hE0
    by_cases k0 : F' = 0
    · have t2 : (F' != 0) = false := by simp [k0]
      rw [if_neg (by simpa using k0)] at hE0
      have ga := g1 (hE.trans h0)
      have gb := g2 (hF.trans k0)
      have ID : Hid (∀ W, Below W0.heap.size W0 W → Calls Tryd.prog 74 #[.agg #[.bool bb, .slice Ab nb cb, .int .i64 xb]] W (DC.RetB W (.bool (isdir d)))) := fun W hW => isDirection_c bb Ab nb cb xb d W ((gb.below D0).below hW)
      by_cases hm : 0 ≤ mode ∧ mode ≤ 4
      · rw [decide_eq_true hm] at IM
        by_cases hd : isdir d = true
        · rw [if_neg (by simp [hm, hd])] at hE0
          have hl := limbs_390 ga.1
          by_cases hb : 4294967296 ^ 390 ≤ (c.m.natAbs : Int)
          · rw [if_pos hb] at hE0
            subst hE0
            have t3 : (na : Int) > 390 := by have := hl.2 hb; omega
            rw [hd] at ID
            rw [if_neg (by decide), if_neg (by decide)]
            have D0 := Lib.hid D0
            clear h0 k0 hE hF hW0 g1 g2 hT hm hd hl hb ga gb N1 N2 NS
            go_enter Tryd.func41, Tryd.ntmps41
            go_wp2_with (first
              | (go_at_call 16; rw [HW0.out]; (with_reducible refine (C1.out).mono ?_); rintro e w2 ⟨rfl, hb0⟩; have D := Lib.hid hb0; obtain ⟨⟨p0, p1, p2⟩, q0, q1, q2⟩ := KB.out _ D.out)
              | (go_at_call 16; (with_reducible refine (C2.out _ D.out).mono ?_); rintro e w3 ⟨rfl, hb0⟩; have D := Lib.hid (D.out.trans (hb0.mono D.out.size)); obtain ⟨⟨p0, p1, p2⟩, q0, q1, q2⟩ := KB.out _ D.out)
              | (go_at_call 72; (with_reducible refine (IM.out _).mono ?_); rintro e w4 ⟨rfl, rfl⟩)
              | (go_at_call 74; (with_reducible refine (ID.out _ D.out).mono ?_); rintro e w5 ⟨rfl, hb0⟩; have D := Lib.hid (D.out.trans (hb0.mono D.out.size)); obtain ⟨⟨p0, p1, p2⟩, q0, q1, q2⟩ := KB.out _ D.out))
            go_ret3
            exact ⟨rfl, D0.out.trans (D.out.mono D0.out.size)⟩
          · rw [if_neg hb] at hE0
            subst hE0
            have hs : (c.m.natAbs : Int) < 4294967296 ^ 390 := by omega
            have t3 : ¬ (na : Int) > 390 := by intro h; exact hb (hl.1 (by omega))
            have hok : Ok c := ⟨ga.2.2.2.1, ga.2.2.2.2⟩
            obtain ⟨r, hf, m, t, et⟩ := tow_part hok hd hs
            have hz := isdir_z hd
            have hx := ga.2.2.2.2.2.2.2
            have NU : Hid (∀ W, Below W0.heap.size W0 W → Calls Tryd.prog 75 #[.agg #[.bool ba, .slice Aa na ca, .int .i64 xa], .agg #[.bool bb, .slice Ab nb cb, .int .i64 xb]] W (RetN W (bz c d) (az c d) (ax c d))) := fun W hW => by
              have := nudge_c ba bb Aa Ab na ca nb cb xa xb _ _ W ((ga.pv.below D0).below hW) ((gb.pv.below D0).below hW) hs hz (by rw [ga.2.2.1]; exact hx)
              rw [ga.2.1, gb.2.1, ga.2.2.1] at this ⊢
              exact this
            have NM : Hid (∀ W A n c', Below W0.heap.size W0 W → PV W (.slice A n c') 0 (az c d) → Calls Tryd.prog 73 #[.agg #[.bool (bz c d), .slice A n c', .int .i64 (ax c d)], .int .i64 mode] W (DC.RetB W (.tuple #[.int .u64 (rx (bz c d) (YY (bz c d) (sc (az c d) (ax c d)) mode)), .bool (LL (sc (az c d) (ax c d)))]))) := fun W A n c' hW hp => by
              have := number_c (bz c d) A n c' (ax c d) (az c d) r mode hf m W hp (nx_bd hx) t ((hT.below D0).below hW)
              unfold YY LL
              rw [et]
              exact this
            rw [hd] at ID
            rw [if_pos rfl, if_pos rfl]
            generalize rx (bz c d) (YY (bz c d) (sc (az c d) (ax c d)) mode) = X at *
            generalize LL (sc (az c d) (ax c d)) = Lo at *
            generalize bz c d = vb at *
            generalize az c d = vz at *
            generalize ax c d = vx at *
            have D0 := Lib.hid D0
            clear h0 k0 hE hF hW0 g1 g2 hT hm hd hl hb ga gb N1 N2 NS t et hz hx hs hok
            go_enter Tryd.func41, Tryd.ntmps41
            go_wp2_with (first
              | (go_at_call 16; rw [HW0.out]; (with_reducible refine (C1.out).mono ?_); rintro e w2 ⟨rfl, hb0⟩; have D := Lib.hid hb0; obtain ⟨⟨p0, p1, p2⟩, q0, q1, q2⟩ := KB.out _ D.out)
              | (go_at_call 16; (with_reducible refine (C2.out _ D.out).mono ?_); rintro e w3 ⟨rfl, hb0⟩; have D := Lib.hid (D.out.trans (hb0.mono D.out.size)); obtain ⟨⟨p0, p1, p2⟩, q0, q1, q2⟩ := KB.out _ D.out)
              | (go_at_call 72; (with_reducible refine (IM.out _).mono ?_); rintro e w4 ⟨rfl, rfl⟩)
              | (go_at_call 74; (with_reducible refine (ID.out _ D.out).mono ?_); rintro e w5 ⟨rfl, hb0⟩; have D := Lib.hid (D.out.trans (hb0.mono D.out.size)); obtain ⟨⟨p0, p1, p2⟩, q0, q1, q2⟩ := KB.out _ D.out)
              | (go_at_call 75; (with_reducible refine (NU.out _ D.out).mono ?_); rintro e w6 ⟨A6, n6, c6, rfl, hp6, hb0⟩; have D := Lib.hid (D.out.trans (hb0.mono D.out.size)))
              | (go_at_call 73; (with_reducible refine (NM.out _ _ _ _ D.out hp6).mono ?_); rintro e w7 ⟨rfl, hb0⟩; have D := Lib.hid (D.out.trans (hb0.mono D.out.size))))
            go_ret3
            exact ⟨rfl, D0.out.trans (D.out.mono D0.out.size)⟩
        · rw [if_pos (fun h => hd h.2)] at hE0
          subst hE0
          rw [if_neg (by decide), if_neg (by decide)]
          rw [show isdir d = false by simpa using hd] at ID
          have D0 := Lib.hid D0
          clear h0 k0 hE hF hW0 g1 g2 hT hm hd ga gb N1 N2 NS
          go_enter Tryd.func41, Tryd.ntmps41
          go_wp2_with (first
            | (go_at_call 16; rw [HW0.out]; (with_reducible refine (C1.out).mono ?_); rintro e w2 ⟨rfl, hb0⟩; have D := Lib.hid hb0; obtain ⟨⟨p0, p1, p2⟩, q0, q1, q2⟩ := KB.out _ D.out)
            | (go_at_call 16; (with_reducible refine (C2.out _ D.out).mono ?_); rintro e w3 ⟨rfl, hb0⟩; have D := Lib.hid (D.out.trans (hb0.mono D.out.size)); obtain ⟨⟨p0, p1, p2⟩, q0, q1, q2⟩ := KB.out _ D.out)
            | (go_at_call 72; (with_reducible refine (IM.out _).mono ?_); rintro e w4 ⟨rfl, rfl⟩)
            | (go_at_call 74; (with_reducible refine (ID.out _ D.out).mono ?_); rintro e w5 ⟨rfl, hb0⟩; have D := Lib.hid (D.out.trans (hb0.mono D.out.size))))
          go_ret3
          exact ⟨rfl, D0.out.trans (D.out.mono D0.out.size)⟩
      · rw [if_pos (fun h => hm h.1)] at hE0
        subst hE0
        rw [if_neg (by decide), if_neg (by decide)]
        rw [decide_eq_false hm] at IM
        have D0 := Lib.hid D0
        clear h0 k0 hE hF hW0 g1 g2 hT hm ga gb N1 N2 NS
        go_enter Tryd.func41, Tryd.ntmps41
        go_wp2_with (first
          | (go_at_call 16; rw [HW0.out]; (with_reducible refine (C1.out).mono ?_); rintro e w2 ⟨rfl, hb0⟩; have D := Lib.hid hb0; obtain ⟨⟨p0, p1, p2⟩, q0, q1, q2⟩ := KB.out _ D.out)
          | (go_at_call 16; (with_reducible refine (C2.out _ D.out).mono ?_); rintro e w3 ⟨rfl, hb0⟩; have D := Lib.hid (D.out.trans (hb0.mono D.out.size)); obtain ⟨⟨p0, p1, p2⟩, q0, q1, q2⟩ := KB.out _ D.out)
          | (go_at_call 72; (with_reducible refine (IM.out _).mono ?_); rintro e w4 ⟨rfl, rfl⟩))
        go_ret3
        exact ⟨rfl, D0.out.trans (D.out.mono D0.out.size)⟩
    · have t2 : (F' != 0) = true := by simp [k0]
      rw [if_pos k0] at hE0
      subst hE0
      rw [if_neg k0, if_neg k0]
      have D0 := Lib.hid D0
      clear h0 k0 hE hF hW0 g1 g2 hT N1 N2 NS
      go_enter Tryd.func41, Tryd.ntmps41
      go_wp2_with (first
        | (go_at_call 16; rw [HW0.out]; (with_reducible refine (C1.out).mono ?_); rintro e w2 ⟨rfl, hb0⟩; have D := Lib.hid hb0; obtain ⟨⟨p0, p1, p2⟩, q0, q1, q2⟩ := KB.out _ D.out)
        | (go_at_call 16; (with_reducible refine (C2.out _ D.out).mono ?_); rintro e w3 ⟨rfl, hb0⟩; have D := Lib.hid (D.out.trans (hb0.mono D.out.size))))
      go_ret3
      exact ⟨rfl, D0.out.trans (D.out.mono D0.out.size)⟩
  · have t1 : (E != 0) = true := by simp [h0]
    rw [if_pos h0] at hE0
    subst hE0
    rw [if_neg h0, if_neg h0]
    have D0 := Lib.hid D0
    clear h0 hE hF hW0 g1 g2 hT N1 N2 NS
    go_enter Tryd.func41, Tryd.ntmps41
    go_wp2_with (first
      | (go_at_call 16; rw [HW0.out]; (with_reducible refine (C1.out).mono ?_); rintro e w2 ⟨rfl, hb0⟩; have D := Lib.hid hb0))
    go_ret3
    exact ⟨rfl, D0.out.trans (D.out.mono D0.out.size)⟩
end RC
end Go.Proofs.YtnlgkhgighhfjaaDoor

/-
  Rounding, pure: a part more, a part less.
-/
namespace Go.Proofs.YtnlgkhgighhfjaaDoor
set_option linter.unusedVariables false
set_option linter.unusedSimpArgs false
open Go.RowKit
set_option linter.unusedVariables false
set_option linter.unusedSimpArgs false
namespace RC
open L NC NK DC
open Z (Nz Tz cmpv)
theorem split_sc2 {z x u : Int} (hx : -60000 ≤ x) (hu : -60000 ≤ u) : ∃ ρ, 2 * sc z x = sh z (x - u + 1) * sc 1 u + ρ ∧ 0 ≤ ρ ∧ ρ < sc 1 u ∧ (ρ = 0 ∨ (2 * sc 1 x ≤ ρ ∧ ρ + 2 * sc 1 x ≤ sc 1 u)) := by
  unfold sh
  by_cases h : 0 ≤ x - u + 1
  · rw [if_pos h]
    obtain ⟨k, hk⟩ := Int.eq_ofNat_of_zero_le h
    rw [hk, Int.toNat_natCast]
    refine ⟨0, ?_, by omega, sc_one_pos u, .inl rfl⟩
    rw [← sc_mul1, sc_shift _ _ _ hu, show u + (k : Int) = x + 1 by omega]
    have := sc_shift z x 1 hx
    rw [Int.add_zero, show x + ((1 : Nat) : Int) = x + 1 by omega] at *
    rw [← this, sc_mul1, sc_mul1 (z * 2 ^ 1)]
    rw [show z * 2 ^ 1 = 2 * z by omega, Int.mul_assoc]
  · rw [if_neg h]
    obtain ⟨k, hk⟩ := Int.eq_ofNat_of_zero_le (show 0 ≤ -(x - u + 1) by omega)
    rw [hk, Int.toNat_natCast]
    have hp := two_pos' k
    have e1 : sc 1 u = 2 * 2 ^ k * sc 1 x := by
      have := sc_shift 1 x (k + 1) hx
      rw [show x + ((k + 1 : Nat) : Int) = u by omega] at this
      rw [← this, sc_mul1, Int.one_mul, Int.pow_succ, Int.mul_comm (2 ^ k)]
    have e2 := Int.emod_add_mul_ediv z (2 ^ k)
    have e3 := Int.emod_nonneg z (Int.ne_of_gt hp)
    have e4 := Int.emod_lt_of_pos z hp
    have hE := sc_one_pos x
    rw [e1, sc_mul1 z x]
    generalize sc 1 x = E at *
    generalize z % 2 ^ k = m at *
    generalize z / 2 ^ k = Q at *
    generalize (2 : Int) ^ k = P at *
    have h1 : (m + 1) * E ≤ P * E := Int.mul_le_mul_of_nonneg_right (by omega) (Int.le_of_lt hE)
    have h0 : 0 ≤ m * E := Int.mul_nonneg e3 (Int.le_of_lt hE)
    rw [Int.add_mul, Int.one_mul] at h1
    refine ⟨2 * (m * E), ?_, by omega, ?_, ?_⟩
    · rw [← e2]; grind
    · rw [Int.mul_assoc]; omega
    · by_cases h2 : m = 0
      · left; rw [h2, Int.zero_mul]; rfl
      · right
        have h3 : 1 * E ≤ m * E := Int.mul_le_mul_of_nonneg_right (by omega) (Int.le_of_lt hE)
        rw [Int.mul_assoc]
        omega
theorem near_parts {z x : Int} {b : Nat} (hx : -20000 ≤ x) (hb : z < 2 ^ b) (hb' : 2 ^ (b - 1) ≤ z) (h0 : 0 < b) (ht : b + x ≤ 1024) :
    ∃ (k : Nat) (q H ρ e : Int), e = sc 1 (k - 1074) ∧ (b : Int) + x - 53 ≤ k - 1074 ∧ 0 ≤ q ∧ q < 9007199254740992 ∧ (k = 0 ∨ 4503599627370496 ≤ q) ∧ q = H / 2 ∧ 0 ≤ H ∧ 2 * sc z x = H * e + ρ ∧ 0 ≤ ρ ∧ ρ < e ∧ (ρ = 0 ∨ (2 * sc 1 x ≤ ρ ∧ ρ + 2 * sc 1 x ≤ e)) ∧
      (k : Int) * 4503599627370496 + q ≤ 9218868437227405311 ∧ U (k * 4503599627370496 + q) = q * e ∧ U (k * 4503599627370496 + q + 1) = (q + 1) * e ∧ Tow (sc z x) (k * 4503599627370496 + q) (decide (H % 2 = 1)) (decide (ρ ≠ 0)) := by
  obtain ⟨u, hu⟩ : ∃ u : Int, u = max (b + x - 53) (-1074) := ⟨_, rfl⟩
  obtain ⟨t1, t2⟩ := tow_near hx hb hb' h0 ht hu
  obtain ⟨ρ, h1, h2, h3, h4⟩ := split_sc2 (z := z) (x := x) (u := u) (by omega) (by omega)
  have hz : 0 ≤ z := by have := two_pos' (b - 1); omega
  have hH := sh_pos hz (x - u + 1)
  generalize sh z (x - u + 1) = H at *
  obtain ⟨k, hk⟩ : ∃ k : Nat, u + 1074 = k := ⟨(u + 1074).toNat, by omega⟩
  have hE := sc_one_pos u
  have d1 : u = b + x - 53 → 9007199254740992 ≤ H := fun hu' => by
    have e1 : sc 1 (x + (b - 1 : Nat)) ≤ sc z x := by rw [← sc_two _ x (by omega), sc_le]; exact hb'
    have e2 : sc 1 (x + (b - 1 : Nat)) = 4503599627370496 * sc 1 u := by
      rw [← sc_mul1, show (4503599627370496 : Int) = 2 ^ 52 by decide, sc_two 52 u (by omega)]
      congr 1; omega
    rcases Int.lt_or_le H 9007199254740992 with h | h
    · have := Int.mul_le_mul_of_nonneg_right (show H ≤ 9007199254740991 by omega) (Int.le_of_lt hE)
      omega
    · exact h
  have hc : k = 0 ∨ 4503599627370496 ≤ H / 2 := by
    by_cases h : b + x - 53 ≤ -1074
    · left; omega
    · right
      have := d1 (by omega)
      omega
  obtain ⟨g1, g2⟩ := U_of (k := k) (q := H / 2) (by omega) (by omega) hc
  rw [show (k : Int) - 1074 = u by omega] at g1 g2
  have t := tow_split (a := sc z x) (by omega) (by omega) g1 g2 rfl h1 h2 h3
  exact ⟨k, H / 2, H, ρ, sc 1 u, by rw [show (k : Int) - 1074 = u by omega], by omega, by omega, by omega, hc, rfl, hH, h1, h2, h3, h4, by omega, g1, g2, t⟩
theorem sc_half {x : Int} (hx : -50000 ≤ x) : sc 1 x = 2 * sc 1 (x - 1) := by
  have := sc_shift 1 (x - 1) 1 (by omega)
  rw [show x - 1 + ((1 : Nat) : Int) = x by omega] at this
  rw [← this, sc_mul1]
  rfl
theorem nudge_val (z x : Int) (hx : -20000 ≤ x) (t : Int) : sc (z * 18446744073709551616 + t) (x - 64) = sc z x + t * sc 1 (x - 64) := by
  rw [sc_add, ← sc_mul1 t]
  have := sc_shift z (x - 64) 64 (by omega)
  rw [show x - 64 + ((64 : Nat) : Int) = x by omega, show (2 : Int) ^ 64 = 18446744073709551616 by decide] at this
  rw [this]
/-- far above: still far above -/
theorem tow_far2 {a ε t s M : Int} (ht : t = 1024) (hs : s = 960) (hM : M = 9218868437227405311) (hε : 0 < ε) (h : sc 1 t - sc 1 s ≤ a) : Tow a M true true := by
  obtain ⟨k, hk⟩ : ∃ k : Nat, k = 2045 := ⟨_, rfl⟩
  obtain ⟨u, hu⟩ : ∃ u : Int, u = (k : Int) - 1074 := ⟨_, rfl⟩
  have hU := (U_of (k := k) (q := 9007199254740991) (by omega) (by omega) (by omega))
  rw [← hu, show (k : Int) * 4503599627370496 + 9007199254740991 = M by omega] at hU
  have e : sc 1 t = 9007199254740992 * sc 1 u := by
    have e2 : u + ((53 : Nat) : Int) = t := by omega
    have := sc_shift 1 u 53 (by omega)
    rw [e2, show (1 : Int) * 2 ^ 53 = 9007199254740992 by decide, sc_mul1] at this
    exact this.symm
  have e2 : sc 1 u = 2048 * sc 1 s := by
    have e2 : s + ((11 : Nat) : Int) = u := by omega
    have := sc_shift 1 s 11 (by omega)
    rw [e2, show (1 : Int) * 2 ^ 11 = 2048 by decide, sc_mul1] at this
    exact this.symm
  have hp := sc_one_pos s
  rw [e, e2] at h
  rw [e2] at hU
  clear e e2
  generalize sc 1 s = E at *
  obtain ⟨g1, g2⟩ := hU
  obtain ⟨u0, hu0⟩ : ∃ x, U M = x := ⟨_, rfl⟩
  obtain ⟨u1, hu1⟩ : ∃ x, U (M + 1) = x := ⟨_, rfl⟩
  rw [hu0] at g1
  rw [hu1] at g2
  have k4 : u0 < a := by clear hu0 hu1; omega
  have k5 : u0 + u1 < 2 * a := by clear hu0 hu1 k4; omega
  have k3 : a ≠ u0 ∧ 2 * a ≠ u0 + u1 := ⟨Int.ne_of_gt k4, Int.ne_of_gt k5⟩
  have r0 : 0 ≤ M := by rw [hM]; decide
  have r1 : M ≤ 9218868437227405311 := Int.le_of_eq hM
  have r2 : ¬ M < 9218868437227405311 := by rw [hM]; exact Int.lt_irrefl _
  refine ⟨r0, r1, by rw [hu0]; exact Int.le_of_lt k4, fun h => absurd h r2, ?_, ?_⟩
  · rw [hu0, hu1]; exact (decide_eq_true (Int.le_of_lt k5)).symm
  · rw [hu0, hu1]; exact (decide_eq_true k3).symm
/-- a part farther from 0, a part nearer -/
def dnr (r : Int) (hf m : Bool) : Int := if hf = false ∧ m = false then r - 1 else r
def dnh (hf m : Bool) : Bool := if m = true then hf else !hf
theorem tow_nudge {z x r : Int} {hf m : Bool} (hz : 0 < z) (hlt : z < 4294967296 ^ 400) (hx : -20000 ≤ x ∧ x ≤ 20000) (t : Tow (sc z x) r hf m) :
    Tow (sc z x + sc 1 (x - 64)) r hf true ∧ Tow (sc z x - sc 1 (x - 64)) (dnr r hf m) (dnh hf m) true := by
  obtain ⟨b, k1, k2, k3, k4⟩ := bits_ex 12800 z hz (by rw [← pow_12800]; exact hlt)
  obtain ⟨ε, hε⟩ : ∃ ε, sc 1 (x - 64) = ε := ⟨_, rfl⟩
  have hεp : 0 < ε := by rw [← hε]; exact sc_one_pos _
  have hx1 : sc 1 x = 18446744073709551616 * ε := by
    rw [← hε, ← sc_mul1, show (18446744073709551616 : Int) = 2 ^ 64 by decide, sc_two 64 _ (by omega)]
    congr 1; omega
  rw [hε]
  by_cases ht : b + x ≤ 1024
  · obtain ⟨k, q, H, ρ, e, he, hu, q0, q1, hc, hq, hH, hA, ρ0, ρ1, ρ2, hr, U0, U1, t'⟩ := near_parts (x := x) (by omega) k3 k4 k2 ht
    obtain ⟨rfl, rfl, rfl⟩ := t.unique t'
    have he2 : 1024 * ε ≤ e := by
      rw [he, ← hε, ← sc_mul1, show (1024 : Int) = 2 ^ 10 by decide, sc_two 10 _ (by omega)]
      exact sc1_le (by omega) (by omega)
    rw [hx1] at ρ2
    constructor
    · have := tow_split (a := sc z x + ε) (H := H) (ρ := ρ + 2 * ε) (by omega) hr U0 U1 hq (by omega) (by omega) (by omega)
      rwa [show decide (ρ + 2 * ε ≠ 0) = true by rw [decide_eq_true_iff]; omega] at this
    · unfold dnr dnh
      by_cases hρ : ρ = 0
      · have hm0 : decide (ρ ≠ 0) = false := by simp [hρ]
        rw [hm0]
        by_cases ho : H % 2 = 1
        · rw [show decide (H % 2 = 1) = true by simp [ho]]
          simp only [Bool.true_eq_false, false_and, if_false, Bool.false_eq_true, Bool.not_true]
          have e1 : (H - 1) * e = H * e - e := by rw [Int.sub_mul, Int.one_mul]
          have := tow_split (a := sc z x - ε) (H := H - 1) (ρ := e - 2 * ε) (by omega) hr U0 U1 (by omega) (by omega) (by omega) (by omega)
          rwa [show decide (e - 2 * ε ≠ 0) = true by rw [decide_eq_true_iff]; omega, show decide ((H - 1) % 2 = 1) = false by rw [decide_eq_false_iff_not]; omega] at this
        · rw [show decide (H % 2 = 1) = false by simp [ho]]
          simp only [and_self, if_true, Bool.false_eq_true, if_false, Bool.not_false]
          have hHe : H = 2 * q := by omega
          have ea : sc z x = q * e := by
            rw [hHe, Int.mul_assoc, hρ] at hA; omega
          have hp : 0 < sc z x := by rw [sc_mul1]; exact Int.mul_pos hz (sc_one_pos x)
          have hq1 : 1 ≤ q := by
            rcases Int.lt_or_le q 1 with h | h
            · have : q = 0 := by omega
              rw [this, Int.zero_mul] at ea; omega
            · exact h
          have hst := U_step (r := k * 4503599627370496 + q - 1) (by omega)
          rw [show (k : Int) * 4503599627370496 + q - 1 + 1 = k * 4503599627370496 + q by omega, U0] at hst
          have hsg : 4 * ε < sg (k * 4503599627370496 + q - 1) := by
            have hG : G (k * 4503599627370496 + q - 1) = 2 ^ k ∨ (1 ≤ k ∧ G (k * 4503599627370496 + q - 1) = 2 ^ (k - 1)) := by
              by_cases h1 : k = 0 ∨ 4503599627370496 ≤ q - 1
              · left
                have := (V_of (k := k) (q := q - 1) (by omega) (by omega) h1).2
                rwa [show (k : Int) * 4503599627370496 + (q - 1) = k * 4503599627370496 + q - 1 by omega] at this
              · right
                refine ⟨by omega, ?_⟩
                have := (V_of (k := k - 1) (q := 9007199254740991) (by omega) (by omega) (by omega)).2
                rwa [show ((k - 1 : Nat) : Int) * 4503599627370496 + 9007199254740991 = k * 4503599627370496 + q - 1 by omega] at this
            unfold sg
            rcases hG with h | ⟨h1, h⟩
            · rw [h, sc_two k _ (by omega), show -1074 + (k : Int) = k - 1074 by omega, ← he]; omega
            · rw [h, sc_two (k - 1) _ (by omega)]
              have h3 := sc_half (x := (k : Int) - 1074) (by omega)
              rw [← he] at h3
              rw [show -1074 + ((k - 1 : Nat) : Int) = (k : Int) - 1074 - 1 by omega]
              omega
          generalize hsgv : sg (k * 4503599627370496 + q - 1) = g at *
          have hUr : U (k * 4503599627370496 + q - 1) = q * e - g := by omega
          have hU1' : U (k * 4503599627370496 + q - 1 + 1) = q * e := by rw [show (k : Int) * 4503599627370496 + q - 1 + 1 = k * 4503599627370496 + q by omega]; exact U0
          rw [ea]
          generalize q * e = P at *
          refine ⟨by omega, by omega, by rw [hUr]; omega, fun _ => by rw [hU1']; omega, ?_, ?_⟩
          · rw [hUr, hU1']; symm; rw [decide_eq_true_iff]; omega
          · rw [hUr, hU1']; symm; rw [decide_eq_true_iff]; omega
      · have hm1 : decide (ρ ≠ 0) = true := by simp [hρ]
        rw [hm1]
        simp only [Bool.true_eq_false, and_false, if_false, if_true]
        have := tow_split (a := sc z x - ε) (H := H) (ρ := ρ - 2 * ε) (by omega) hr U0 U1 hq (by omega) (by omega) (by omega)
        rwa [show decide (ρ - 2 * ε ≠ 0) = true by rw [decide_eq_true_iff]; omega] at this
  · have e1 : sc 1 (x + (b - 1 : Nat)) ≤ sc z x := by rw [← sc_two _ x (by omega), sc_le]; exact k4
    obtain ⟨t1, ht1⟩ : ∃ t1 : Int, t1 = 1024 := ⟨_, rfl⟩
    obtain ⟨s1, hs1⟩ : ∃ s1 : Int, s1 = 960 := ⟨_, rfl⟩
    obtain ⟨M, hM⟩ : ∃ M : Int, M = 9218868437227405311 := ⟨_, rfl⟩
    have hle : sc 1 t1 ≤ sc z x := Int.le_trans (sc1_le (by omega) (by omega)) e1
    obtain ⟨rfl, rfl, rfl⟩ := t.unique (tow_far ht1 hM hle)
    have hlow : sc 1 t1 - sc 1 s1 ≤ sc z x - ε := by
      -- the part is no more than what 64 bits less count
      obtain ⟨j, hj⟩ : ∃ j : Nat, x + (b - 1 : Nat) = t1 + j := ⟨(x + (b - 1 : Nat) - t1).toNat, by omega⟩
      have e2 : ε ≤ sc 1 (s1 + j) := by rw [← hε]; exact sc1_le (by omega) (by omega)
      have e3 : sc 1 (t1 + j) = 2 ^ j * sc 1 t1 := by rw [← sc_two j t1 (by omega), sc_mul1]
      have e4 : sc 1 (s1 + j) = 2 ^ j * sc 1 s1 := by rw [← sc_two j s1 (by omega), sc_mul1]
      have e5 : sc 1 s1 ≤ sc 1 t1 := sc1_le (by omega) (by omega)
      rw [hj, e3] at e1
      rw [e4] at e2
      have h2 := two_pos' j
      have e6 : (2 ^ j - 1) * sc 1 s1 ≤ (2 ^ j - 1) * sc 1 t1 := Int.mul_le_mul_of_nonneg_left e5 (by omega)
      rw [Int.sub_mul, Int.sub_mul, Int.one_mul, Int.one_mul] at e6
      omega
    refine ⟨tow_far ht1 hM (by omega), ?_⟩
    have := tow_far2 ht1 hs1 hM hεp hlow
    exact this
end RC
end Go.Proofs.YtnlgkhgighhfjaaDoor

/-
  DyadRing: the walk.
-/
namespace Go.Proofs.YtnlgkhgighhfjaaDoor
set_option linter.unusedVariables false
set_option linter.unusedSimpArgs false
open Go.RowKit
set_option linter.unusedVariables false
namespace DC
open L NC NK
open Z (Nz Tz cmpv)
theorem ok2 (W : World) (x1 x2 : Int) (o : Bool) (ho : [x1, x2].all (· == 0) = o) : Calls Tryd.prog 46 #[.slice (some ⟨W.heap.size, 0, none⟩) 2 2] (W.alloc (.cells #[.int .i64 x1, .int .i64 x2] 26)) fun e w' => e = .returned (.bool o) ∧ W.alloc (.cells #[.int .i64 x1, .int .i64 x2] 26) = w' := by
  have h1 := ok_lit W [x1, x2] (by simp)
  rw [ho] at h1
  exact h1
theorem ok2a (W : World) (ob : Obj) (x1 x2 : Int) (o : Bool) (ho : [x1, x2].all (· == 0) = o) : Calls Tryd.prog 46 #[.slice (some ⟨W.heap.size + 1, 0, none⟩) 2 2] ((W.alloc ob).alloc (.cells #[.int .i64 x1, .int .i64 x2] 26)) fun e w' => e = .returned (.bool o) ∧ (W.alloc ob).alloc (.cells #[.int .i64 x1, .int .i64 x2] 26) = w' := by
  have h := ok2 (W.alloc ob) x1 x2 o ho
  rw [show (W.alloc ob).heap.size = W.heap.size + 1 by simp] at h
  exact h
theorem ok4a (W : World) (ob : Obj) (x1 x2 x3 x4 : Int) (o : Bool) (ho : [x1, x2, x3, x4].all (· == 0) = o) : Calls Tryd.prog 46 #[.slice (some ⟨W.heap.size + 1, 0, none⟩) 4 4] ((W.alloc ob).alloc (.cells #[.int .i64 x1, .int .i64 x2, .int .i64 x3, .int .i64 x4] 26)) fun e w' => e = .returned (.bool o) ∧ (W.alloc ob).alloc (.cells #[.int .i64 x1, .int .i64 x2, .int .i64 x3, .int .i64 x4] 26) = w' := by
  have h := ok4 (W.alloc ob) x1 x2 x3 x4 o ho
  rw [show (W.alloc ob).heap.size = W.heap.size + 1 by simp] at h
  exact h
theorem ok5a (W : World) (ob : Obj) (x1 x2 x3 x4 x5 : Int) (o : Bool) (ho : [x1, x2, x3, x4, x5].all (· == 0) = o) : Calls Tryd.prog 46 #[.slice (some ⟨W.heap.size + 1, 0, none⟩) 5 5] ((W.alloc ob).alloc (.cells #[.int .i64 x1, .int .i64 x2, .int .i64 x3, .int .i64 x4, .int .i64 x5] 26)) fun e w' => e = .returned (.bool o) ∧ (W.alloc ob).alloc (.cells #[.int .i64 x1, .int .i64 x2, .int .i64 x3, .int .i64 x4, .int .i64 x5] 26) = w' := by
  have h := ok5 (W.alloc ob) x1 x2 x3 x4 x5 o ho
  rw [show (W.alloc ob).heap.size = W.heap.size + 1 by simp] at h
  exact h
theorem all4 {x1 x2 x3 x4 : Int} (h : [x1, x2, x3, x4].all (· == 0) = true) : x1 = 0 ∧ x2 = 0 ∧ x3 = 0 ∧ x4 = 0 := by
  simpa [List.all_cons, Bool.and_eq_true] using h
theorem all5 {x1 x2 x3 x4 x5 : Int} (h : [x1, x2, x3, x4, x5].all (· == 0) = true) : x1 = 0 ∧ x2 = 0 ∧ x3 = 0 ∧ x4 = 0 ∧ x5 = 0 := by
  simpa [List.all_cons, Bool.and_eq_true] using h
theorem beq_iff {x y : Int} (h : x = 0 ↔ y = 0) : ∃ t, (x == 0) = t ∧ (y == 0) = t := by
  refine ⟨y == 0, ?_, rfl⟩
  by_cases hy : y = 0
  · simp [hy, h.2 hy]
  · have : x ≠ 0 := fun hx => hy (h.1 hx)
    rw [beq_eq_false_iff_ne.2 this, beq_eq_false_iff_ne.2 hy]
end DC
end Go.Proofs.YtnlgkhgighhfjaaDoor

