/-
  Texts glued together for a claim: R4 R5 R6 U1 U2 U3 U4 U5 U6 U7 U8 U9.
-/
import Derived.Test.YtelblhgagpkjmaaGreatDoorF7
import Derived.Test.YtelblhgagpkjmaaGreatDoorF1
/-
  Package round: toward0.
-/
namespace Go.Proofs.YtelblhgagpkjmaaGreatDoor
set_option linter.unusedVariables false
set_option linter.unusedSimpArgs false
open Go.RowKit
set_option linter.unusedVariables false
namespace RC
open L NC NK DC
open Z (Nz Tz cmpv)
theorem bits_ex : ∀ (f : Nat) (z : Int), 0 < z → z < 2 ^ f → ∃ k : Nat, k ≤ f ∧ 0 < k ∧ z < 2 ^ k ∧ 2 ^ (k - 1) ≤ z := by
  intro f
  induction f with
  | zero => intro z h0 h1; simp at h1; omega
  | succ f ih =>
    intro z h0 h1
    by_cases h : z < 2 ^ f
    · obtain ⟨k, a, b⟩ := ih z h0 h
      exact ⟨k, by omega, b⟩
    · exact ⟨f + 1, by omega, by omega, h1, by simp; omega⟩
theorem Bits_k {u : Value} {z : Int} {w : World} {k : Nat} (h : PV w u 0 z) (h1 : z < 2 ^ k) (h2 : 2 ^ (k - 1) ≤ z) (h0 : 0 < k) : Calls Tryz.prog 59 #[u] w (fun e w' => e = .returned (.tuple #[.int .i64 k, .int .i64 0]) ∧ w = w') := by
  refine (bits_p h).mono ?_
  rintro e w' ⟨n, rfl, h3, h4, -, rfl⟩
  obtain ⟨h5, h6⟩ := h4.out rfl
  have hz : 0 < z := by have := two_pos' (k - 1); omega
  have e : n = k := by
    rcases h6 with rfl | h6
    · simp at h5; omega
    · have a1 := two_lt (Int.lt_of_le_of_lt h6 h1)
      have a2 := two_lt (Int.lt_of_le_of_lt h2 h5)
      have n0 : n ≠ 0 := by rintro rfl; simp at h5; omega
      omega
  rw [e]
  exact ⟨rfl, rfl⟩
/-- behind the box of a Dyad and a rest's cell -/
theorem tbox (w : World) (b1 : Bool) (A1 : Option Addr) (n1 c1 : Nat) (x1 : Int) :
    ∃ W0, (w.alloc (.cells #[.bool b1, .slice A1 n1 c1, .int .i64 x1] 26)).alloc (.cells #[.bool false, .bool false] 143) = W0 ∧ Below w.heap.size w W0 ∧
    (∀ W, Below W0.heap.size W0 W → BX W w.heap.size b1 A1 n1 c1 x1 ∧ Blk W (w.heap.size + 1) 143 #[.bool false, .bool false]) := by
  obtain ⟨N1, N2, NS, NB⟩ := new2 w 26 143 #[.bool b1, .slice A1 n1 c1, .int .i64 x1] #[.bool false, .bool false] 0
  rw [World.drewN_zero] at N1 N2 NS NB
  exact ⟨_, rfl, NB, fun W h => ⟨BX.of (N1.below h N1.lt), N2.below h N2.lt⟩⟩
set_option maxRecDepth 100000 in
theorem toward0_z (b : Bool) (A : Option Addr) (c : Nat) (x : Int) (w : World) :
    Calls Tryz.prog 130 #[.agg #[.bool b, .slice A 0 c, .int .i64 x]] w (DC.RetB w (.tuple #[.int .u64 0, .agg #[.bool false, .bool false]])) := by
  obtain ⟨W0, hW0, D0, KB⟩ := tbox w b A 0 c x
  have IZ : Hid (∀ W, Calls Tryz.prog 134 #[.agg #[.bool b, .slice A 0 c, .int .i64 x]] W (DC.RetB W (.bool true))) := fun W => by
    have := isZero_c b A 0 c x W
    rwa [show decide (0 = 0) = true from rfl] at this
  have KB := Lib.hid KB
  have D0 := Lib.hid D0
  have HW0 := Lib.hid hW0
  clear hW0
  go_enter Tryz.func130, Tryz.ntmps130
  go_wp2_with (first
    | (go_at_call 134; rw [HW0.out]; (with_reducible refine (IZ.out _).mono ?_); rintro e w2 ⟨rfl, hb0⟩; have D := Lib.hid hb0; obtain ⟨⟨p0, p1, p2⟩, R2⟩ := KB.out _ D.out; have t0 := R2.at_ 0 rfl; have t1 := R2.at_ 1 rfl; have f0 := R2.frozen 0; have f1 := R2.frozen 1; have R2 := Lib.hid R2))
  exact bodyPost_ret (v := .tuple #[.int .u64 0, .agg #[.bool false, .bool false]]) (by simp [results, Tryz.results130, go_sem, t0, t1]) rfl
    ⟨rfl, below2 (D0.out.trans (D.out.mono D0.out.size)) (by omega) _ _⟩
set_option maxRecDepth 100000 in
theorem toward0_far (b : Bool) (A : Option Addr) (n c : Nat) (x z : Int) (k : Nat) (w : World) (h : PV w (.slice A n c) 0 z) (hn : n ≠ 0) (h1 : z < 2 ^ k) (h2 : 2 ^ (k - 1) ≤ z) (h0 : 0 < k) (hk : k ≤ 12800) (hx : -20000 ≤ x ∧ x ≤ 20000) (ht : 1024 < k + x) :
    Calls Tryz.prog 130 #[.agg #[.bool b, .slice A n c, .int .i64 x]] w (DC.RetB w (.tuple #[.int .u64 9218868437227405311, .agg #[.bool true, .bool true]])) := by
  obtain ⟨W0, hW0, D0, KB⟩ := tbox w b A n c x
  have IZ : Hid (∀ W, Calls Tryz.prog 134 #[.agg #[.bool b, .slice A n c, .int .i64 x]] W (DC.RetB W (.bool false))) := fun W => by
    have := isZero_c b A n c x W
    rwa [show decide (n = 0) = false by simp [hn]] at this
  have BT : Hid (∀ W, Below W0.heap.size W0 W → Calls Tryz.prog 59 #[.slice A n c] W (fun e w' => e = .returned (.tuple #[.int .i64 k, .int .i64 0]) ∧ W = w')) := fun W hW => Bits_k ((h.below D0).below hW) h1 h2 h0
  have i1 : IntKind.i64.wrap ((k : Int) + x) = k + x := IntWalk.i64_in _ (by omega)
  obtain ⟨T, hT⟩ : ∃ T, (k : Int) + x = T := ⟨_, rfl⟩
  rw [hT] at i1 ht
  rw [← hT] at i1
  have HT := Lib.hid hT
  have KB := Lib.hid KB
  have D0 := Lib.hid D0
  have HW0 := Lib.hid hW0
  have ht' : (k : Int) + x > 1024 := by omega
  clear hW0 h hn h1 h2 h0 hk hx hT ht
  go_enter Tryz.func130, Tryz.ntmps130
  go_wp2_with (first
    | (go_at_call 134; rw [HW0.out]; (with_reducible refine (IZ.out _).mono ?_); rintro e w2 ⟨rfl, hb0⟩; have D := Lib.hid hb0; obtain ⟨⟨p0, p1, p2⟩, R2⟩ := KB.out _ D.out; have t0 := R2.at_ 0 rfl; have t1 := R2.at_ 1 rfl; have f0 := R2.frozen 0; have f1 := R2.frozen 1; have R2 := Lib.hid R2)
    | (go_at_call 59; (with_reducible refine (BT.out _ D.out).mono ?_); rintro e w3 ⟨rfl, rfl⟩))
  exact bodyPost_ret (v := .tuple #[.int .u64 9218868437227405311, .agg #[.bool true, .bool true]]) (by simp [results, Tryz.results130, go_sem, t0, t1]) rfl
    ⟨rfl, below2 (D0.out.trans (D.out.mono D0.out.size)) (by omega) _ _⟩
set_option maxRecDepth 100000 in
theorem toward0_near (b : Bool) (A : Option Addr) (n c : Nat) (x z u : Int) (k : Nat) (w : World) (h : PV w (.slice A n c) 0 z) (hn : n ≠ 0) (h1 : z < 2 ^ k) (h2 : 2 ^ (k - 1) ≤ z) (h0 : 0 < k) (hk : k ≤ 12800) (hx : -20000 ≤ x ∧ x ≤ 20000) (ht : k + x ≤ 1024) (hu : u = max (k + x - 53) (-1074))
    (q : Int) (hf m : Bool) (hq : 0 ≤ q ∧ q < 9007199254740992) (hT : TabD w)
    (SP : ∀ W, Below w.heap.size w W → Calls Tryz.prog 135 #[.slice A n c, .int .i64 (x - u)] W (RetSp W q hf m)) :
    Calls Tryz.prog 130 #[.agg #[.bool b, .slice A n c, .int .i64 x]] w (DC.RetB w (.tuple #[.int .u64 ((u + 1074) * 4503599627370496 + q), .agg #[.bool hf, .bool m]])) := by
  obtain ⟨W0, hW0, D0, KB⟩ := tbox w b A n c x
  have IZ : Hid (∀ W, Calls Tryz.prog 134 #[.agg #[.bool b, .slice A n c, .int .i64 x]] W (DC.RetB W (.bool false))) := fun W => by
    have := isZero_c b A n c x W
    rwa [show decide (n = 0) = false by simp [hn]] at this
  have BT : Hid (∀ W, Below W0.heap.size W0 W → Calls Tryz.prog 59 #[.slice A n c] W (fun e w' => e = .returned (.tuple #[.int .i64 k, .int .i64 0]) ∧ W = w')) := fun W hW => Bits_k ((h.below D0).below hW) h1 h2 h0
  have SP : Hid (∀ W, Below W0.heap.size W0 W → Calls Tryz.prog 135 #[.slice A n c, .int .i64 (x - u)] W (RetSp W q hf m)) := fun W hW => SP W (D0.trans (hW.mono D0.size))
  have WD : Hid (∀ (W : World) A n c, NV W (.slice A n c) q → Calls Tryz.prog 136 #[.slice A n c] W (fun e w' => e = .returned (.int .u64 q) ∧ W = w')) := fun W A n c hv => word_c A n c q W hv (by omega)
  have i1 : IntKind.i64.wrap ((k : Int) + x) = k + x := IntWalk.i64_in _ (by omega)
  have i2 : IntKind.i64.wrap ((k : Int) + x - 52) = k + x - 52 := IntWalk.i64_in _ (by omega)
  have i3 : IntKind.i64.wrap ((k : Int) + x - 52 - 1) = k + x - 52 - 1 := IntWalk.i64_in _ (by omega)
  have i4 : IntKind.i64.wrap (x - u) = x - u := IntWalk.i64_in _ (by omega)
  have hu2 : max ((k : Int) + x - 52 - 1) (-1074) = u := by omega
  have ub : -1074 ≤ u ∧ u ≤ 971 := by omega
  have ht' : ¬ (k : Int) + x > 1024 := by omega
  have KB := Lib.hid KB
  have D0 := Lib.hid D0
  have HW0 := Lib.hid hW0
  obtain ⟨T, hT⟩ : ∃ T, (k : Int) + x = T := ⟨_, rfl⟩
  clear hW0 h hn h1 h2 h0 hk hx hT ht hu
  go_enter Tryz.func130, Tryz.ntmps130
  go_upto_region 9 with (first
    | (go_at_call 134; rw [HW0.out]; (with_reducible refine (IZ.out _).mono ?_); rintro e w2 ⟨rfl, hb0⟩; have D := Lib.hid hb0; obtain ⟨⟨p0, p1, p2⟩, R2⟩ := KB.out _ D.out; have t0 := R2.at_ 0 rfl; have t1 := R2.at_ 1 rfl; have f0 := R2.frozen 0; have f1 := R2.frozen 1; have R2 := Lib.hid R2)
    | (go_at_call 59; (with_reducible refine (BT.out _ D.out).mono ?_); rintro e w3 ⟨rfl, rfl⟩)
    | (go_at_call 135; (with_reducible refine (SP.out _ D.out).mono ?_); rintro e w5 ⟨A5, n5, c5, rfl, hv5, hb5⟩; have D := Lib.hid (D.out.trans (hb5.mono D.out.size))))
  have N8 := Blk.new w5 143 #[.bool hf, .bool m]
  have D6 := D.out.alloc D.out.size (.cells #[.bool hf, .bool m] 143)
  have V6 := hv5.below (al1 w5 (.cells #[.bool hf, .bool m] 143))
  have hne : w5.heap.size ≠ w.heap.size + 1 := by
    obtain ⟨-, R⟩ := KB.out _ D.out
    have := R.lt
    omega
  obtain ⟨w6, hw6⟩ : ∃ w6, w5.alloc (.cells #[.bool hf, .bool m] 143) = w6 := ⟨_, rfl⟩
  obtain ⟨g8, hg8⟩ : ∃ g8, w5.heap.size = g8 := ⟨_, rfl⟩
  rw [hw6] at N8 D6 V6 ⊢
  rw [hg8] at N8 hne ⊢
  have c1 : IntKind.i64.wrap (u + 1074) = u + 1074 := IntWalk.i64_in _ (by omega)
  have c2 : IntKind.u64.wrap (u + 1074) = u + 1074 := IntWalk.u64_in _ (by omega)
  have c3 : IntKind.u64.wrap ((u + 1074) * 4503599627370496) = (u + 1074) * 4503599627370496 := IntWalk.u64_in _ (by omega)
  have c4 : IntKind.u64.wrap ((u + 1074) * 4503599627370496 + q) = (u + 1074) * 4503599627370496 + q := IntWalk.u64_in _ (by omega)
  have D := Lib.hid D6
  clear hw6 hg8 D6 hv5 hb5 t0 t1 f0 f1 R2 p0 p1 p2 hb0
  have N9 := N8
  have V9 : NV w6.drew (.slice A5 n5 c5) q := V6
  obtain ⟨-, R2⟩ := KB.out _ D.out
  have n0 := N9.at_ 0 rfl; have n1 := N9.at_ 1 rfl
  (refine wp_region_L (S := fun w' => w'.cell? ⟨g8, 0, none⟩ = some (.bool hf) ∧ w'.cell? ⟨g8, 1, none⟩ = some (.bool m)) (nl := 1000000) (by kernel_rfl) ?_ (fun hHeld => ?_); focus (exact ⟨n0, n1⟩))
  (refine wpAnyL_take (i := 0) (oi := _) (v := ?_) rfl (by kernel_rfl) (by kernel_rfl) (by kernel_rfl) (fun _ _ _ h => h) (Or.inl ⟨by first | rfl | kernel_rfl, ?hy1⟩) (by assumption) ?rs1; (case hy1 => (intro w hSw; (try dsimp only at hSw); go_simp; first | done | with_reducible rfl)); case' rs1 => (simp only [List.getElem_toArray, List.getElem_cons_zero, List.getElem_cons_succ, Act.put, List.setIfInBounds_toArray, List.set_cons_zero, List.set_cons_succ])); (refine wpAnyL_take (i := 1) (oi := _) (v := ?_) rfl (by kernel_rfl) (by kernel_rfl) (by kernel_rfl) (fun _ _ _ h => h) (Or.inl ⟨by first | rfl | kernel_rfl, ?hy2⟩) (by assumption) ?rs2; (case hy2 => (intro w hSw; (try dsimp only at hSw); go_simp; first | done | with_reducible rfl)); case' rs2 => (simp only [List.getElem_toArray, List.getElem_cons_zero, List.getElem_cons_succ, Act.put, List.setIfInBounds_toArray, List.set_cons_zero, List.set_cons_succ])); (refine wpAnyL_take (i := 2) (oi := _) (v := ?_) rfl (by kernel_rfl) (by kernel_rfl) (by kernel_rfl) (fun _ _ _ h => h) (Or.inl ⟨by first | rfl | kernel_rfl, ?hy3⟩) (by assumption) ?rs3; (case hy3 => (intro w hSw; (try dsimp only at hSw); go_simp; first | done | with_reducible rfl)); case' rs3 => (simp only [List.getElem_toArray, List.getElem_cons_zero, List.getElem_cons_succ, Act.put, List.setIfInBounds_toArray, List.set_cons_zero, List.set_cons_succ])); (refine wpAnyL_take (i := 3) (oi := _) (v := ?_) rfl (by kernel_rfl) (by kernel_rfl) (by kernel_rfl) (fun _ _ _ h => h) (Or.inl ⟨by first | rfl | kernel_rfl, ?hy4⟩) (by assumption) ?rs4; (case hy4 => (intro w hSw; (try dsimp only at hSw); go_simp; first | done | with_reducible rfl)); case' rs4 => (simp only [List.getElem_toArray, List.getElem_cons_zero, List.getElem_cons_succ, Act.put, List.setIfInBounds_toArray, List.set_cons_zero, List.set_cons_succ])); (refine wpAnyL_take (i := 4) (oi := _) (v := ?_) rfl (by kernel_rfl) (by kernel_rfl) (by kernel_rfl) (fun _ _ _ h => h) (Or.inl ⟨by first | rfl | kernel_rfl, ?hy5⟩) (by assumption) ?rs5; (case hy5 => (intro w hSw; (try dsimp only at hSw); go_simp; first | done | with_reducible rfl)); case' rs5 => (simp only [List.getElem_toArray, List.getElem_cons_zero, List.getElem_cons_succ, Act.put, List.setIfInBounds_toArray, List.set_cons_zero, List.set_cons_succ])); (refine wpAnyL_take (i := 7) (oi := _) (v := ?_) rfl (by kernel_rfl) (by kernel_rfl) (by kernel_rfl) (fun _ _ _ h => h) (Or.inl ⟨by first | rfl | kernel_rfl, ?hy6⟩) (by assumption) ?rs6; (case hy6 => (intro w hSw; (try dsimp only at hSw); go_simp; first | done | with_reducible rfl)); case' rs6 => (simp only [List.getElem_toArray, List.getElem_cons_zero, List.getElem_cons_succ, Act.put, List.setIfInBounds_toArray, List.set_cons_zero, List.set_cons_succ])); skip
  (refine wpAnyL_one (i := 5) (o := _) (by kernel_rfl) rfl (fun K hK => ?_); clear hHeld; simp only [List.getElem_toArray, List.getElem_cons_zero, List.getElem_cons_succ]; go_simp; (go_at_call 136; (with_reducible refine (WD.out _ _ _ _ V9).mono ?_); rintro e w7 ⟨rfl, rfl⟩); refine hK.out _ _ ?_ (fun hHeld => ?_); focus (intro _; exact ⟨n0, n1⟩)); have hHeld := hHeld (by decide); clear hK K; (try simp only [Act.put, List.setIfInBounds_toArray, List.set_cons_zero, List.set_cons_succ])
  (refine wpAnyL_take (i := 6) (oi := _) (v := ?_) rfl (by kernel_rfl) (by kernel_rfl) (by kernel_rfl) (fun _ _ _ h => h) (Or.inl ⟨by first | rfl | kernel_rfl, ?hy7⟩) (by assumption) ?rs7; (case hy7 => (intro w hSw; (try dsimp only at hSw); go_simp; first | done | with_reducible rfl)); case' rs7 => (simp only [List.getElem_toArray, List.getElem_cons_zero, List.getElem_cons_succ, Act.put, List.setIfInBounds_toArray, List.set_cons_zero, List.set_cons_succ])); (refine wpAnyL_take (i := 8) (oi := _) (v := ?_) rfl (by kernel_rfl) (by kernel_rfl) (by kernel_rfl) (fun _ _ _ h => h) (Or.inl ⟨by first | rfl | kernel_rfl, ?hy8⟩) (by assumption) ?rs8; (case hy8 => (intro w hSw; (try dsimp only at hSw); go_simp; first | done | with_reducible rfl)); case' rs8 => (simp only [List.getElem_toArray, List.getElem_cons_zero, List.getElem_cons_succ, Act.put, List.setIfInBounds_toArray, List.set_cons_zero, List.set_cons_succ])); skip
  have t0 := R2.at_ 0 rfl; have t1 := R2.at_ 1 rfl; have f0 := R2.frozen 0; have f1 := R2.frozen 1
  (refine wpAnyL_one (i := 9) (o := _) (by kernel_rfl) rfl (fun K hK => ?_); clear hHeld; simp only [List.getElem_toArray, List.getElem_cons_zero, List.getElem_cons_succ]; go_simp; refine hK.out _ _ ?_ (fun hHeld => ?_); focus (intro _; (have NF := (N9.far (p := ⟨w.heap.size + 1, 0, none⟩) hne (.bool hf)).far (p := ⟨w.heap.size + 1, 1, none⟩) hne (.bool m); exact ⟨NF.at_ 0 rfl, NF.at_ 1 rfl⟩))); have hHeld := hHeld (by decide); clear hK K; (try simp only [Act.put, List.setIfInBounds_toArray, List.set_cons_zero, List.set_cons_succ])
  refine wpAnyL_done (by kernel_rfl) ?_ _
  go_wp2
  exact bodyPost_ret (v := .tuple #[.int .u64 ((u + 1074) * 4503599627370496 + q), .agg #[.bool hf, .bool m]]) (by simp [results, Tryz.results130, go_sem, t0, t1]) rfl
    ⟨rfl, (below2 (D0.out.trans (D.out.mono D0.out.size)) (B := w.heap.size + 1) (by omega) (.bool hf) (.bool m)).drew⟩
theorem two_54 : (18014398509481984 : Int) < 4294967296 ^ 400 := Int.lt_of_lt_of_le (show (18014398509481984 : Int) < 4294967296 ^ 2 by decide) (pow_mono (by decide))
/-- what toward0 tells -/
theorem toward0_c (b : Bool) (A : Option Addr) (n c : Nat) (x z : Int) (w : World) (h : PV w (.slice A n c) 0 z) (hx : -20000 ≤ x ∧ x ≤ 20000) (hT : TabD w) :
    ∃ r hf m, Tow (sc z x) r hf m ∧ ∀ W, Below w.heap.size w W → Calls Tryz.prog 130 #[.agg #[.bool b, .slice A n c, .int .i64 x]] W (DC.RetB W (.tuple #[.int .u64 r, .agg #[.bool hf, .bool m]])) := by
  have sm := h.small
  have hlt := sm.2 rfl
  by_cases h0 : z = 0
  · subst h0
    obtain rfl := NV.zero h.nv
    exact ⟨0, false, false, by rw [sc_zero.2 rfl]; exact tow_zero, fun W hW => toward0_z b A c x W⟩
  · have hz : 0 < z := by omega
    have hn : n ≠ 0 := by
      rintro rfl
      obtain ⟨l, l1, l2, l3, l4⟩ := h.nv
      have en := l1.len_.1
      have := List.length_eq_zero_iff.1 en.symm
      rw [this] at l4
      simp [lv] at l4
      omega
    obtain ⟨k, k1, k2, k3, k4⟩ := bits_ex 12800 z hz (by rw [← pow_12800]; exact hlt)
    by_cases ht : k + x ≤ 1024
    · obtain ⟨u, hu⟩ : ∃ u : Int, u = max (k + x - 53) (-1074) := ⟨_, rfl⟩
      obtain ⟨t1, t2⟩ := tow_near (x := x) (by omega) k3 k4 k2 ht hu
      have hp := sh_pos sm.1 (x - u + 1)
      refine ⟨_, _, _, t2, fun W hW => toward0_near b A n c x z u k W (h.below hW) hn k3 k4 k2 k1 hx ht hu _ _ _ (by omega) (hT.below hW) fun W' hW' => ?_⟩
      exact split_c _ z (x - u) W' ((h.below hW).below hW') (by omega) (by omega) (Int.lt_trans t1 two_54) ((hT.below hW).below hW')
    · refine ⟨_, true, true, tow_far (t := 1024) rfl rfl ?_, fun W hW => toward0_far b A n c x z k W (h.below hW) hn k3 k4 k2 k1 hx (by omega)⟩
      have e1 : sc 1 (x + (k - 1 : Nat)) ≤ sc z x := by rw [← sc_two _ x (by omega), sc_le]; exact k4
      exact Int.le_trans (sc1_le (by omega) (by omega)) e1
/-- the rank that is told, and the number's bits -/
def ry (b : Bool) (r : Int) (hf m : Bool) (mode : Int) : Int := if up b (decide (r % 2 = 1)) hf m mode = true then r + 1 else r
def rx (b : Bool) (y : Int) : Int := if b = true then F.neg y else y
theorem number_c (b : Bool) (A : Option Addr) (n c : Nat) (x z r mode : Int) (hf m : Bool) (w : World) (h : PV w (.slice A n c) 0 z) (hx : -20000 ≤ x ∧ x ≤ 20000) (t : Tow (sc z x) r hf m) (hT : TabD w) :
    Calls Tryz.prog 120 #[.agg #[.bool b, .slice A n c, .int .i64 x], .int .i64 mode] w (DC.RetB w (.tuple #[.int .u64 (rx b (ry b r hf m mode)), .bool (hf || m)])) := by
  have D0 : Below w.heap.size w (w.alloc (.cells #[.bool b, .slice A n c, .int .i64 x] 26)) := al1 _ _
  have T0 : Hid (∀ W, Below w.heap.size w W → Calls Tryz.prog 130 #[.agg #[.bool b, .slice A n c, .int .i64 x]] W (DC.RetB W (.tuple #[.int .u64 r, .agg #[.bool hf, .bool m]]))) := by
    obtain ⟨r', h', m', t', hc⟩ := toward0_c b A n c x z w h hx hT
    obtain ⟨rfl, rfl, rfl⟩ := t.unique t'
    exact hc
  have r0 := t.r0
  have r1 := t.r1
  obtain ⟨u, hu⟩ : ∃ u, up b (decide (r % 2 = 1)) hf m mode = u := ⟨_, rfl⟩
  have AW : Hid (∀ W, Calls Tryz.prog 131 #[.agg #[.bool hf, .bool m], .bool b, .bool (decide (r % 2 = 1)), .int .i64 mode] W (DC.RetB W (.bool u))) := fun W => by
    have := away_c hf m b (decide (r % 2 = 1)) mode W
    rwa [hu] at this
  have NG : Hid (∀ (W : World) (y : Int), 0 ≤ y → y ≤ 9223372036854775807 → Calls Tryz.prog 100 #[.int .u64 y] W (fun e w' => e = .returned (.int .u64 (F.neg y)) ∧ W = w')) := fun W y h1 h2 => FloatC.Neg_c y h1 (by omega) W
  unfold ry rx
  rw [hu]
  have BX0 := BX.new w b A n c x
  obtain ⟨W0, hW0⟩ : ∃ W0, w.alloc (.cells #[.bool b, .slice A n c, .int .i64 x] 26) = W0 := ⟨_, rfl⟩
  rw [hW0] at D0 BX0
  have HW0 := Lib.hid hW0
  have KB : Hid (∀ W, Below W0.heap.size W0 W → BX W w.heap.size b A n c x) := fun W hW => BX0.below hW
  have D0 := Lib.hid D0
  have i1 : IntKind.u64.wrap (r + 1) = r + 1 := IntWalk.u64_in _ (by omega)
  have i2 : IntKind.u64.wrap (r % 2) = r % 2 := IntWalk.u64_in _ (by omega)
  have e5 : (r % 2 == 1) = decide (r % 2 = 1) := rfl
  clear hu t h hx hT hW0 BX0
  cases u <;> cases b
  all_goals (
    go_enter Tryz.func120, Tryz.ntmps120
    go_wp2_with (first
      | (go_at_call 130; rw [HW0.out]; (with_reducible refine (T0.out _ D0.out).mono ?_); rintro e w2 ⟨rfl, hb0⟩; have D := Lib.hid (hb0.alloc hb0.size (.cells #[.bool hf, .bool m] 143)); obtain ⟨p0, p1, p2⟩ := KB.out _ D.out)
      | (go_at_call 131; (try rw [e5]); (with_reducible refine (AW.out _).mono ?_); rintro e w3 ⟨rfl, hb3⟩; have D := Lib.hid (D.out.trans (hb3.mono D.out.size)); obtain ⟨p0, p1, p2⟩ := KB.out _ D.out; have N8 := (Blk.new w2 143 #[.bool hf, .bool m]).below hb3 (Blk.new w2 143 #[.bool hf, .bool m]).lt; have n0 := N8.at_ 0 rfl; have n1 := N8.at_ 1 rfl)
      | (go_at_call 100; (with_reducible refine (NG.out _ _ (by omega) (by omega)).mono ?_); rintro e w4 ⟨rfl, rfl⟩))
    clear T0 AW NG KB HW0 N8
    have D9 := Lib.hid (D0.out.trans (D.out.mono D0.out.size))
    cases hf <;> cases m
    all_goals (
      go_region
      go_wp2
      go_ret2
      exact ⟨rfl, D9.out.drew⟩))
end RC
end Go.Proofs.YtelblhgagpkjmaaGreatDoor

/-
  Package round: To; a half, twice.
-/
namespace Go.Proofs.YtelblhgagpkjmaaGreatDoor
set_option linter.unusedVariables false
set_option linter.unusedSimpArgs false
open Go.RowKit
set_option linter.unusedVariables false
set_option linter.unusedSimpArgs false
namespace RC
open L NC NK DC
open Z (Nz Tz cmpv)
theorem tow_ex {z x : Int} (h0 : 0 ≤ z) (hz : z < 4294967296 ^ 400) (hx : -20000 ≤ x ∧ x ≤ 20000) : ∃ r h m, Tow (sc z x) r h m := by
  by_cases h : z = 0
  · subst h; exact ⟨0, false, false, by rw [sc_zero.2 rfl]; exact tow_zero⟩
  · obtain ⟨k, k1, k2, k3, k4⟩ := bits_ex 12800 z (by omega) (by rw [← pow_12800]; exact hz)
    by_cases ht : k + x ≤ 1024
    · exact ⟨_, _, _, (tow_near (x := x) (by omega) k3 k4 k2 ht rfl).2⟩
    · refine ⟨_, true, true, tow_far (t := 1024) rfl rfl ?_⟩
      have e1 : sc 1 (x + (k - 1 : Nat)) ≤ sc z x := by rw [← sc_two _ x (by omega), sc_le]; exact k4
      exact Int.le_trans (sc1_le (by omega) (by omega)) e1
/-- how far from 0 -/
def A (d : Dy) : Int := sc (d.m.natAbs : Int) d.x
def ng (d : Dy) : Bool := decide (d.m < 0)
theorem abs_small {d : Dy} (h : inb d.m d.x) : (d.m.natAbs : Int) < 4294967296 ^ 400 := by
  obtain ⟨h1, h2, -⟩ := h
  generalize (4294967296 : Int) ^ 400 = c400 at *
  omega
theorem towA {d : Dy} (h : Ok d) : ∃ r hf m, Tow (A d) r hf m ∧ tow (A d) = (r, hf, m) := by
  obtain ⟨r, hf, m, t⟩ := tow_ex (z := (d.m.natAbs : Int)) (x := d.x) (by omega) (abs_small h.2.2) (by have := h.2.2.2.2; omega)
  exact ⟨r, hf, m, t, tow_eq t⟩
/-- what To tells of a number -/
noncomputable def YY (b : Bool) (a : Int) (mode : Int) : Int := ry b (tow a).1 (tow a).2.1 (tow a).2.2 mode
noncomputable def LL (a : Int) : Bool := (tow a).2.1 || (tow a).2.2
noncomputable def TX (d : Dy) (mode : Int) : Int := if d.er = 0 ∧ 0 ≤ mode ∧ mode ≤ 4 then rx (ng d) (YY (ng d) (A d) mode) else 0
noncomputable def TL (d : Dy) (mode : Int) : Bool := if d.er = 0 ∧ 0 ≤ mode ∧ mode ≤ 4 then LL (A d) else false
def TE (d : Dy) (mode : Int) : Int := if d.er ≠ 0 then d.er else if 0 ≤ mode ∧ mode ≤ 4 then 0 else 1
theorem GV.tow {w : World} {b A n c x d} (g : GV w b A n c x d) : ∃ r hf m, Tow (sc (d.m.natAbs : Int) x) r hf m ∧ tow (RC.A d) = (r, hf, m) := by
  obtain ⟨h1, hb, hx, he, hc, hi⟩ := g
  obtain ⟨r, hf, m, t, e⟩ := towA ⟨he, hc, hi⟩
  rw [hx]
  exact ⟨r, hf, m, t, e⟩
theorem To_d (v : Value) (d : Dy) (mode : Int) (w : World) (h : DV w v d) (hT : TabD w) : Calls Tryz.prog 99 #[v, .int .i64 mode] w (DC.RetB w (.tuple #[.int .u64 (TX d mode), .bool (TL d mode), .int .i64 (TE d mode)])) := by
  have C1 : ∀ W, Below w.heap.size w W → Calls Tryz.prog 65 #[v] W (DC.RetB W (.int .i64 d.er)) := fun W hW => Check_d v d W (h.below hW)
  obtain ⟨b1, A1, n1, c1, x1, l1, rfl, -, -, -, -, g1, -⟩ := h
  have X0 := BX.new w b1 A1 n1 c1 x1
  have D0 := al1 w (.cells #[.bool b1, .slice A1 n1 c1, .int .i64 x1] 26)
  obtain ⟨W0, hW0⟩ : ∃ W0, w.alloc (.cells #[.bool b1, .slice A1 n1 c1, .int .i64 x1] 26) = W0 := ⟨_, rfl⟩
  rw [hW0] at X0 D0
  have C1 := Lib.hid (C1 W0 D0)
  have IM : Hid (∀ W, Calls Tryz.prog 119 #[.int .i64 mode] W (fun e w' => e = .returned (.bool (decide (0 ≤ mode ∧ mode ≤ 4))) ∧ W = w')) := fun W => isMode_c mode W
  have KB : Hid (∀ W, Below W0.heap.size W0 W → BX W w.heap.size b1 A1 n1 c1 x1) := fun W hW => X0.below hW
  have HW0 := Lib.hid hW0
  unfold TX TL TE
  obtain ⟨E, hE⟩ : ∃ E, d.er = E := ⟨_, rfl⟩
  rw [hE] at C1 ⊢
  by_cases h0 : E = 0
  · have t1 : (E != 0) = false := by simp [h0]
    by_cases hm : 0 ≤ mode ∧ mode ≤ 4
    · rw [if_pos ⟨h0, hm⟩, if_pos ⟨h0, hm⟩, if_neg (by simpa using h0), if_pos hm]
      rw [decide_eq_true hm] at IM
      have g := g1 (hE.trans h0)
      have hx := g.2.2.1
      have hi := g.2.2.2.2.2
      obtain ⟨r, hf, m, t, et⟩ := GV.tow g
      have NU : Hid (∀ W, Below W0.heap.size W0 W → Calls Tryz.prog 120 #[.agg #[.bool b1, .slice A1 n1 c1, .int .i64 x1], .int .i64 mode] W (DC.RetB W (.tuple #[.int .u64 (rx (ng d) (YY (ng d) (RC.A d) mode)), .bool (LL (RC.A d))]))) := fun W hW => by
        have := number_c b1 A1 n1 c1 x1 _ r mode hf m W ((g.pv.below D0).below hW) (by have := hi.2.2; omega) t ((hT.below D0).below hW)
        unfold YY LL ng
        rw [et, ← g.2.1]
        exact this
      generalize rx (ng d) (YY (ng d) (RC.A d) mode) = X at *
      generalize LL (RC.A d) = Lo at *
      clear h0 hE hW0 g1 hT t et hi g hm hx X0
      have D0 := Lib.hid D0
      go_enter Tryz.func99, Tryz.ntmps99
      go_wp2_with (first
        | (go_at_call 65; rw [HW0.out]; (with_reducible refine (C1.out).mono ?_); rintro e w2 ⟨rfl, hb0⟩; have D := Lib.hid hb0; obtain ⟨p0, p1, p2⟩ := KB.out _ D.out)
        | (go_at_call 119; (with_reducible refine (IM.out _).mono ?_); rintro e w3 ⟨rfl, rfl⟩)
        | (go_at_call 120; (with_reducible refine (NU.out _ D.out).mono ?_); rintro e w4 ⟨rfl, hb4⟩; have D := Lib.hid (D.out.trans (hb4.mono D.out.size))))
      go_ret3
      exact ⟨by simp [t1], D0.out.trans (D.out.mono D0.out.size)⟩
    · rw [if_neg (fun h => hm h.2), if_neg (fun h => hm h.2), if_neg (by simpa using h0), if_neg hm]
      rw [decide_eq_false hm] at IM
      clear h0 hE hW0 g1 hT hm X0
      have D0 := Lib.hid D0
      go_enter Tryz.func99, Tryz.ntmps99
      go_wp2_with (first
        | (go_at_call 65; rw [HW0.out]; (with_reducible refine (C1.out).mono ?_); rintro e w2 ⟨rfl, hb0⟩; have D := Lib.hid hb0; obtain ⟨p0, p1, p2⟩ := KB.out _ D.out)
        | (go_at_call 119; (with_reducible refine (IM.out _).mono ?_); rintro e w3 ⟨rfl, rfl⟩))
      go_ret3
      exact ⟨rfl, D0.out.trans (D.out.mono D0.out.size)⟩
  · rw [if_neg (fun h => h0 h.1), if_neg (fun h => h0 h.1), if_pos h0]
    have t1 : (E != 0) = true := by simp [h0]
    clear h0 hE hW0 g1 hT X0
    have D0 := Lib.hid D0
    go_enter Tryz.func99, Tryz.ntmps99
    go_wp2_with (first
      | (go_at_call 65; rw [HW0.out]; (with_reducible refine (C1.out).mono ?_); rintro e w2 ⟨rfl, hb0⟩; have D := Lib.hid hb0))
    go_ret3
    exact ⟨rfl, D0.out.trans (D.out.mono D0.out.size)⟩
/-- halfway between two -/
def hd : Dy := ⟨0, 9007199254740993, -53⟩
end RC
end Go.Proofs.YtelblhgagpkjmaaGreatDoor

/-
  Rounding, pure: what the laws ask.
-/
namespace Go.Proofs.YtelblhgagpkjmaaGreatDoor
set_option linter.unusedVariables false
set_option linter.unusedSimpArgs false
open Go.RowKit
set_option linter.unusedVariables false
set_option linter.unusedSimpArgs false
namespace RC
open L NC NK DC
open Z (Nz Tz cmpv)
theorem A_abs (d : Dy) : (0 ≤ S d → A d = S d ∧ ng d = false) ∧ (S d < 0 → A d = -S d ∧ ng d = true) := by
  have hp := sc_one_pos d.x
  have e1 : S d = d.m * sc 1 d.x := sc_mul1 _ _
  have e2 : A d = (d.m.natAbs : Int) * sc 1 d.x := sc_mul1 _ _
  rw [e1, e2]
  unfold ng
  generalize sc 1 d.x = P at *
  constructor
  · intro h
    have hm : 0 ≤ d.m := by
      rcases Int.lt_or_le d.m 0 with h1 | h1
      · have := Int.mul_neg_of_neg_of_pos h1 hp; omega
      · exact h1
    exact ⟨by rw [show (d.m.natAbs : Int) = d.m by omega], by simp; omega⟩
  · intro h
    have hm : d.m < 0 := by
      rcases Int.lt_or_le d.m 0 with h1 | h1
      · exact h1
      · have := Int.mul_nonneg h1 (Int.le_of_lt hp); omega
    exact ⟨by rw [show (d.m.natAbs : Int) = -d.m by omega, Int.neg_mul], by simp; omega⟩
theorem tow_exact {r : Int} (h0 : 0 ≤ r) (h1 : r ≤ 9218868437227405311) : Tow (U r) r false false := by
  have := U_lt h0 (show r < r + 1 by omega)
  refine ⟨h0, h1, Int.le_refl _, fun _ => this, ?_, ?_⟩
  · symm; rw [decide_eq_false_iff_not]; omega
  · symm; rw [decide_eq_false_iff_not]; intro h; exact h.1 rfl
theorem up_none (b o : Bool) (mode : Int) : up b o false false mode = false := by unfold up; simp
theorem ry_none (b : Bool) (r mode : Int) : ry b r false false mode = r := by unfold ry; rw [up_none]; simp
theorem rx_bd {b : Bool} {y : Int} (h0 : 0 ≤ y) (h1 : y ≤ 9218868437227405312) : 0 ≤ rx b y ∧ rx b y ≤ 18446744073709551615 ∧ F.nn (rx b y) ∧ F.rnk (rx b y) = (if b = true then -y else y) := by
  unfold rx F.nn F.rnk F.neg
  cases b
  · simp; omega
  · simp
    rw [if_pos (by omega)]
    refine ⟨by omega, by omega, by omega, ?_⟩
    rw [if_neg (by omega)]; omega
theorem ry_bd {b : Bool} {a r : Int} {hf m : Bool} (t : Tow a r hf m) (mode : Int) : 0 ≤ ry b r hf m mode ∧ ry b r hf m mode ≤ 9218868437227405312 ∧ r ≤ ry b r hf m mode ∧ ry b r hf m mode ≤ r + 1 := by
  have h0 := t.r0
  have h1 := t.r1
  unfold ry
  split <;> omega
/-- To by Tow -/
theorem TX_of {d : Dy} {mode r : Int} {hf m : Bool} (h : Ok d) (hm : 0 ≤ mode ∧ mode ≤ 4) (t : Tow (A d) r hf m) : TX d mode = rx (ng d) (ry (ng d) r hf m mode) ∧ TL d mode = (hf || m) ∧ TE d mode = 0 := by
  have e := tow_eq t
  unfold TX TL TE YY LL
  rw [if_pos ⟨h.1, hm⟩, if_pos ⟨h.1, hm⟩, if_neg (by simpa using h.1), if_pos hm, e]
  exact ⟨rfl, rfl, rfl⟩
theorem TX_bd (d : Dy) (mode : Int) (h : d.er = 0 → Ok d) : 0 ≤ TX d mode ∧ TX d mode ≤ 18446744073709551615 ∧ F.nn (TX d mode) := by
  by_cases h0 : d.er = 0 ∧ 0 ≤ mode ∧ mode ≤ 4
  · obtain ⟨r, hf, m, t, -⟩ := towA (h h0.1)
    have k := ry_bd (b := ng d) t mode
    rw [(TX_of (h h0.1) h0.2 t).1]
    have := rx_bd (b := ng d) k.1 k.2.1
    exact ⟨this.1, this.2.1, this.2.2.1⟩
  · unfold TX
    rw [if_neg h0]
    exact ⟨by omega, by omega, by unfold F.nn; omega⟩
/-- turned -/
def tm (mode : Int) : Int := if mode = 1 then 2 else if mode = 2 then 1 else mode
/-- what is a number -/
theorem of_p {x : Int} (h0 : 0 ≤ x) (h1 : x ≤ 18446744073709551615) (h2 : F.exq x ≠ 2047) : (OfD x).e = 0 ∧ Ok (OfD x).d ∧ S (OfD x).d = sgm (F.sgn x) (U (x % 9223372036854775808)) ∧ x % 9223372036854775808 ≤ 9218868437227405311 := by
  have hb := F.exq_bd x
  have hf := F.fra_bd x
  have hx := F.mk_parts x h0 h1
  have hr : x % 9223372036854775808 = F.exq x * 4503599627370496 + F.fra x := by unfold F.exq F.fra; omega
  have mb : 0 ≤ mant x ∧ mant x < 9007199254740992 := by unfold mant; split <;> omega
  obtain ⟨k, hk⟩ : ∃ k : Nat, F.ulp x + 1074 = k := ⟨(F.ulp x + 1074).toNat, by unfold F.ulp; split <;> omega⟩
  have hkq : x % 9223372036854775808 = k * 4503599627370496 + mant x ∧ (k = 0 ∨ 4503599627370496 ≤ mant x) := by
    rw [hr]
    unfold F.ulp at hk
    unfold mant
    by_cases h : 0 < F.exq x
    · rw [if_pos h]; rw [if_pos (by omega)] at hk; exact ⟨by omega, by omega⟩
    · rw [if_neg h]; rw [if_neg (by omega)] at hk; exact ⟨by omega, by omega⟩
  have ub : -1074 ≤ F.ulp x ∧ F.ulp x ≤ 971 := by unfold F.ulp; split <;> omega
  have eU := (U_of mb.1 mb.2 hkq.2).1
  rw [← hkq.1, show (k : Int) - 1074 = F.ulp x by omega] at eU
  have e1 : OfD x = fin (sgm (F.sgn x) (mant x)) (F.ulp x) := by unfold OfD; rw [if_neg h2]
  have e0 : (fin (sgm (F.sgn x) (mant x)) (F.ulp x)).e = 0 := by
    by_cases hz : mant x = 0
    · rw [hz, show sgm (F.sgn x) 0 = 0 by cases F.sgn x <;> rfl, fin_zero]
    · obtain ⟨o, o1, o2⟩ := tz_spec (m := mant x) hz
      have os := odd_small o1 (by omega)
      have ht : tz (mant x) < 53 := by
        have h3 := Int.mul_le_mul_of_nonneg_right (show (1 : Int) ≤ o by omega) (Int.le_of_lt (two_pos' (tz (mant x))))
        exact two_lt (b := 53) (Int.lt_of_le_of_lt (by omega) mb.2)
      have hi : inb (sgm (F.sgn x) o) (F.ulp x + tz (mant x)) := by
        have : (4294967296 : Int) ^ 2 ≤ 4294967296 ^ 400 := pow_mono (by decide)
        unfold inb sgm
        generalize (4294967296 : Int) ^ 400 = c400 at *
        cases F.sgn x <;> simp <;> omega
      rw [fin_sg o1 o2, if_pos hi]
  have es := fin_sc (show -60000 ≤ F.ulp x by omega) e0
  rw [e1]
  refine ⟨e0, fin_ok _ _, ?_, by rw [hr]; omega⟩
  unfold S
  rw [es, eU]
  unfold sgm
  cases F.sgn x
  · simp; exact sc_mul1 _ _
  · simp; rw [sc_neg, sc_mul1]
end RC
end Go.Proofs.YtelblhgagpkjmaaGreatDoor

/-
  Package sum, pure: sums of lists; what has no value; zeros.
-/
namespace Go.Proofs.YtelblhgagpkjmaaGreatDoor
set_option linter.unusedVariables false
set_option linter.unusedSimpArgs false
open Go.RowKit
set_option linter.unusedVariables false
set_option linter.unusedSimpArgs false
namespace SC
open L NC NK DC RC
/-- what fits easily -/
structure Fit (d : Dy) (k : Int) : Prop where
  ok : Ok d
  x : -1074 ≤ d.x
  hi : S d ≤ k * sc 1 1024
  lo : -(k * sc 1 1024) ≤ S d
theorem two_lt' {a b : Nat} (h : a < b) : (2 : Int) ^ a < 2 ^ b := by
  obtain ⟨k, rfl⟩ : ∃ k, b = a + 1 + k := ⟨b - a - 1, by omega⟩
  rw [Int.pow_add, Int.pow_succ]
  have h1 := two_pos' a
  have h2 := two_pos' k
  have h3 := Int.mul_le_mul_of_nonneg_left (show (1 : Int) ≤ 2 ^ k by omega) (show (0 : Int) ≤ 2 ^ a * 2 by omega)
  omega
theorem big_small {n : Nat} (h : n = 2106) : (2 : Int) ^ n < 4294967296 ^ 400 := by
  have e : (4294967296 : Int) = 2 ^ 32 := by decide
  rw [e, ← Int.pow_mul]
  exact two_lt' (by omega)
theorem inb_fit {o x t : Int} (ht : t = 1032) (ho : o ≠ 0) (hx : -1074 ≤ x) (h1 : sc o x ≤ sc 1 t) (h2 : -(sc 1 t) ≤ sc o x) : inb o x := by
  have hp := sc_one_pos x
  have e1 : sc o x = o * sc 1 x := sc_mul1 _ _
  have hxt : x ≤ t := by
    rcases Int.lt_or_le t x with h | h
    · exfalso
      have h3 : sc 1 t < sc 1 x := by
        have h4 := sc1_le (x := t + 1) (y := x) (by omega) (by omega)
        have h5 := sc_shift 1 t 1 (by omega)
        rw [show (1 : Int) * 2 ^ 1 = 2 by decide, show t + ((1 : Nat) : Int) = t + 1 by omega, sc_mul1] at h5
        have := sc_one_pos t
        omega
      rw [e1] at h1 h2
      generalize sc 1 x = E at *
      generalize sc 1 t = B at *
      rcases Int.lt_or_le o 0 with h | h
      · have := Int.mul_le_mul_of_nonneg_right (show o ≤ -1 by omega) (Int.le_of_lt hp)
        omega
      · have := Int.mul_le_mul_of_nonneg_right (show 1 ≤ o by omega) (Int.le_of_lt hp)
        omega
    · exact h
  obtain ⟨n, hn⟩ : ∃ n : Nat, n = 2106 := ⟨_, rfl⟩
  have e2 : sc 1 t = 2 ^ n * sc 1 (-1074) := by
    rw [← sc_mul1, sc_two n _ (by omega)]
    congr 1; omega
  have e3 := sc1_le (x := -1074) (y := x) (by omega) (by omega)
  have hq := sc_one_pos (-1074)
  have hb := big_small hn
  rw [e1, e2] at h1 h2
  have hP := two_pos' n
  have hx2 : x ≤ 1032 := by omega
  clear e2 hn ht
  have l1 : o ≤ 2 ^ n := by
    rcases Int.lt_or_le (2 ^ n) o with h | h
    · exfalso
      have a := Int.mul_le_mul_of_nonneg_right (show 2 ^ n + 1 ≤ o by omega) (Int.le_of_lt hp)
      have b := Int.mul_le_mul_of_nonneg_left e3 (Int.le_of_lt hP)
      rw [Int.add_mul, Int.one_mul] at a
      omega
    · exact h
  have l2 : -(2 ^ n) ≤ o := by
    rcases Int.lt_or_le o (-(2 ^ n)) with h | h
    · exfalso
      have a := Int.mul_le_mul_of_nonneg_right (show o ≤ -(2 ^ n) - 1 by omega) (Int.le_of_lt hp)
      have b := Int.mul_le_mul_of_nonneg_left e3 (Int.le_of_lt hP)
      rw [Int.sub_mul, Int.one_mul, Int.neg_mul] at a
      omega
    · exact h
  unfold inb
  generalize (4294967296 : Int) ^ 400 = c400 at *
  omega
theorem fin_x {m x : Int} (h : (fin m x).e = 0) : (fin m x).d.m = 0 ∨ x ≤ (fin m x).d.x := by
  by_cases h0 : m = 0
  · subst h0; rw [fin_zero]; exact .inl rfl
  · obtain ⟨o, h1, h2⟩ := tz_spec h0
    rw [fin_of h1 h2] at h ⊢
    by_cases hi : inb o (x + tz m)
    · rw [if_pos hi]; right; show x ≤ x + _; omega
    · rw [if_neg hi] at h; cases h
theorem fin_x' {m x : Int} (h : (fin m x).e = 0) (hx : -1074 ≤ x) : -1074 ≤ (fin m x).d.x := by
  rcases fin_x h with h1 | h1
  · have := (fin_ok m x).2.1
    unfold can at this
    omega
  · omega
theorem fit_lim {j t : Int} (hj : j ≤ 256) (ht : t = 1032) : j * sc 1 1024 ≤ sc 1 t := by
  have h := sc_two 8 1024 (by omega)
  have h' : sc 1 t = 256 * sc 1 1024 := by
    rw [← sc_mul1, show (256 : Int) = 2 ^ 8 by decide, h, ht]; rfl
  rw [h']
  exact Int.mul_le_mul_of_nonneg_right hj (Int.le_of_lt (sc_one_pos _))
theorem fin_fit {m x k : Int} (hx : -1074 ≤ x) (hk : k ≤ 256) (h1 : sc m x ≤ k * sc 1 1024) (h2 : -(k * sc 1 1024) ≤ sc m x) : (fin m x).e = 0 := by
  obtain ⟨t, ht⟩ : ∃ t : Int, t = 1032 := ⟨_, rfl⟩
  have hl := fit_lim hk ht
  by_cases h0 : m = 0
  · subst h0; rw [fin_zero]
  · obtain ⟨o, o1, o2⟩ := tz_spec h0
    rw [fin_of o1 o2]
    have e := sc_shift o x (tz m) (by omega)
    rw [← o1] at e
    rw [e] at h1 h2
    have hi := inb_fit (o := o) (x := x + tz m) ht (odd_ne o2) (by omega) (by omega) (by omega)
    rw [if_pos hi]
theorem add_fit {a b : Dy} {j k : Int} (ha : Fit a j) (hb : Fit b k) (hk : j + k ≤ 256) : (DC.Add a b).e = 0 ∧ Fit (DC.Add a b).d (j + k) ∧ S (DC.Add a b).d = S a + S b := by
  have he : ee a.er b.er = 0 := ee0.2 ⟨ha.ok.1, hb.ok.1⟩
  have x1 := ha.x
  have x2 := hb.x
  have h1 := ha.hi
  have h2 := ha.lo
  have h3 := hb.hi
  have h4 := hb.lo
  have e1 : sc (lv2 a b + lv2 b a) (min a.x b.x) = S a + S b := by
    rw [sc_add, sc_lv2 a b (by omega)]
    have := sc_lv2 b a (by omega)
    rw [Int.min_comm b.x a.x] at this
    rw [this]; rfl
  have e2 : (j + k) * sc 1 1024 = j * sc 1 1024 + k * sc 1 1024 := Int.add_mul _ _ _
  have e0 : (DC.Add a b).e = 0 := by
    unfold DC.Add
    rw [if_neg (by simpa using he)]
    unfold sum
    exact fin_fit (k := j + k) (by omega) hk (by rw [e1, e2]; omega) (by rw [e1, e2]; omega)
  have hS := (add_ok e0 (fun _ => ha.ok) (fun _ => hb.ok)).2.2
  refine ⟨e0, ⟨add_good a b, ?_, by rw [hS, e2]; omega, by rw [hS, e2]; omega⟩, hS⟩
  unfold DC.Add at e0 ⊢
  rw [if_neg (by simpa using he)] at e0 ⊢
  unfold sum at e0 ⊢
  exact fin_x' e0 (by omega)
theorem fit_zero : Fit dz 0 := by
  have e : S dz = 0 := sc_zero.2 rfl
  refine ⟨ok_dz, by decide, ?_, ?_⟩ <;> rw [e] <;> omega
/-- finite -/
def fi (x : Int) : Prop := 0 ≤ x ∧ x ≤ 18446744073709551615 ∧ F.exq x ≠ 2047
/-- the value -/
def val (x : Int) : Int := S (OfD x).d
theorem U_max {M : Int} (hM : M = 9218868437227405311) : U M ≤ sc 1 1024 := by
  obtain ⟨k, hk⟩ : ∃ k : Nat, k = 2045 := ⟨_, rfl⟩
  obtain ⟨u, hu⟩ : ∃ u : Int, u = (k : Int) - 1074 := ⟨_, rfl⟩
  have hU := (U_of (k := k) (q := 9007199254740991) (by omega) (by omega) (by omega))
  rw [← hu, show (k : Int) * 4503599627370496 + 9007199254740991 = M by omega] at hU
  have hp := sc_one_pos u
  have e : sc 1 1024 = 9007199254740992 * sc 1 u := by
    have := sc_shift 1 u 53 (by omega)
    rw [show u + ((53 : Nat) : Int) = 1024 by omega, show (1 : Int) * 2 ^ 53 = 9007199254740992 by decide, sc_mul1] at this
    exact this.symm
  rw [hU.1, e]
  omega
theorem val_eq {x : Int} (h : fi x) : val x = sgm (F.sgn x) (U (x % 9223372036854775808)) := (of_p h.1 h.2.1 h.2.2).2.2.1
theorem of_fit {x : Int} (h : fi x) : (OfD x).e = 0 ∧ Fit (OfD x).d 1 := by
  obtain ⟨h1, h2, h3, h4⟩ := of_p h.1 h.2.1 h.2.2
  have u0 := U_pos (r := x % 9223372036854775808) (by omega)
  have u1 := U_le (r := x % 9223372036854775808) (s := 9218868437227405311) (by omega) h4
  have u2 := Int.le_trans u1 (U_max rfl)
  refine ⟨h1, h2, ?_, ?_, ?_⟩
  · unfold OfD at h1 ⊢
    rw [if_neg h.2.2] at h1 ⊢
    exact fin_x' h1 (by unfold F.ulp; split <;> omega)
  · rw [h3]; unfold sgm; split <;> omega
  · rw [h3]; unfold sgm; split <;> omega
/-- the sum of a list, by Dyads and by values -/
def tot : List Int → Dy → Dy
  | [], d => d
  | x :: t, d => tot t (DC.Add d (OfD x).d).d
def vs : List Int → Int
  | [] => 0
  | x :: t => val x + vs t
theorem vs_append (a b : List Int) : vs (a ++ b) = vs a + vs b := by
  induction a with
  | nil => simp [vs]
  | cons x t ih => simp [vs, ih]; omega
theorem tot_fit : ∀ (L : List Int) (d : Dy) (k : Int), (∀ x ∈ L, fi x) → Fit d k → k + L.length ≤ 256 → Fit (tot L d) (k + L.length) ∧ S (tot L d) = S d + vs L := by
  intro L
  induction L with
  | nil => intro d k _ h _; refine ⟨by simpa [tot] using h, by simp [tot, vs]⟩
  | cons x t ih =>
    intro d k hL h hk
    rw [List.length_cons] at hk
    have hx := of_fit (hL x (by simp))
    obtain ⟨-, a2, a3⟩ := add_fit h hx.2 (by omega)
    obtain ⟨b1, b2⟩ := ih (DC.Add d (OfD x).d).d (k + 1) (fun y hy => hL y (by simp [hy])) a2 (by omega)
    refine ⟨?_, ?_⟩
    · rw [List.length_cons, show k + ((t.length + 1 : Nat) : Int) = k + 1 + t.length by omega]; exact b1
    · show S (tot t (DC.Add d (OfD x).d).d) = S d + (val x + vs t)
      rw [b2, a3]
      unfold val
      omega
/-- what has no value -/
def wv : List Int → Int → Bool → Int × Bool
  | [], s, f => (s, f)
  | x :: t, s, f => if F.cls x = 5 then (9221120237041090560, true) else if F.cls x = 4 then (if f = true ∧ x ≠ s then (9221120237041090560, true) else wv t x true) else wv t s f
def hN (L : List Int) : Bool := L.any fun x => F.cls x == 5
def hP (L : List Int) : Bool := L.any fun x => x == 9218868437227405312
def hM (L : List Int) : Bool := L.any fun x => x == 18442240474082181120
def WV (n p m : Bool) : Int × Bool := if n || (p && m) then (9221120237041090560, true) else if p then (9218868437227405312, true) else if m then (18442240474082181120, true) else (0, false)
theorem cls_inf {x : Int} (h0 : 0 ≤ x) (h1 : x ≤ 18446744073709551615) : F.cls x = 4 ↔ x = 9218868437227405312 ∨ x = 18442240474082181120 := by
  unfold F.cls F.exq F.fra
  constructor
  · intro h; repeat (first | omega | split at h)
  · rintro (rfl | rfl) <;> decide
theorem cls_fi {x : Int} : F.cls x ≠ 5 ∧ F.cls x ≠ 4 ↔ F.exq x ≠ 2047 := by
  have := F.exq_bd x
  unfold F.cls
  constructor
  · rintro ⟨h1, h2⟩ h
    rw [if_neg (by omega), if_neg (by omega)] at h1 h2
    by_cases h3 : F.fra x = 0
    · rw [if_pos h3] at h2; exact h2 rfl
    · rw [if_neg h3] at h1; exact h1 rfl
  · intro h
    by_cases h0 : F.exq x = 0
    · rw [if_pos h0]; split <;> omega
    · rw [if_neg h0, if_pos (by omega)]; omega
theorem wv_spec : ∀ (L : List Int) (s : Int) (f : Bool), (∀ x ∈ L, 0 ≤ x ∧ x ≤ 18446744073709551615) → ((f = false ∧ s = 0) ∨ (f = true ∧ (s = 9218868437227405312 ∨ s = 18442240474082181120))) →
    wv L s f = WV (hN L) (hP L || (s == 9218868437227405312)) (hM L || (s == 18442240474082181120)) := by
  intro L
  induction L with
  | nil =>
    intro s f _ h
    rcases h with ⟨rfl, rfl⟩ | ⟨rfl, rfl | rfl⟩ <;> simp [wv, WV, hN, hP, hM]
  | cons x t ih =>
    intro s f hL h
    have hx := hL x (by simp)
    have ht : ∀ y ∈ t, 0 ≤ y ∧ y ≤ 18446744073709551615 := fun y hy => hL y (by simp [hy])
    have ci := cls_inf hx.1 hx.2
    unfold wv
    by_cases h5 : F.cls x = 5
    · rw [if_pos h5]
      have : hN (x :: t) = true := by simp [hN, h5]
      rw [this]; simp [WV]
    · rw [if_neg h5]
      have e1 : hN (x :: t) = hN t := by simp [hN, h5]
      rw [e1]
      by_cases h4 : F.cls x = 4
      · rw [if_pos h4]
        rcases ci.1 h4 with rfl | rfl
        · have e2 : hP (9218868437227405312 :: t) = true := by simp [hP]
          have e3 : hM (9218868437227405312 :: t) = hM t := by simp [hM]
          rw [e2, e3]
          rcases h with ⟨rfl, rfl⟩ | ⟨rfl, rfl | rfl⟩
          · rw [if_neg (by simp), ih _ _ ht (.inr ⟨rfl, .inl rfl⟩)]; simp
          · rw [if_neg (by simp), ih _ _ ht (.inr ⟨rfl, .inl rfl⟩)]; simp
          · rw [if_pos (by simp)]; simp [WV]
        · have e2 : hP (18442240474082181120 :: t) = hP t := by simp [hP]
          have e3 : hM (18442240474082181120 :: t) = true := by simp [hM]
          rw [e2, e3]
          rcases h with ⟨rfl, rfl⟩ | ⟨rfl, rfl | rfl⟩
          · rw [if_neg (by simp), ih _ _ ht (.inr ⟨rfl, .inr rfl⟩)]; simp
          · rw [if_pos (by simp)]; simp [WV]
          · rw [if_neg (by simp), ih _ _ ht (.inr ⟨rfl, .inr rfl⟩)]; simp
      · rw [if_neg h4]
        have e2 : hP (x :: t) = hP t := by
          have : x ≠ 9218868437227405312 := fun h => h4 (ci.2 (.inl h))
          simp [hP, this]
        have e3 : hM (x :: t) = hM t := by
          have : x ≠ 18442240474082181120 := fun h => h4 (ci.2 (.inr h))
          simp [hM, this]
        rw [e2, e3]
        exact ih _ _ ht h
def u64s (L : List Int) : Prop := ∀ x ∈ L, 0 ≤ x ∧ x ≤ 18446744073709551615
theorem wv_eq {L : List Int} (h : u64s L) : wv L 0 false = WV (hN L) (hP L) (hM L) := by
  have := wv_spec L 0 false h (.inl ⟨rfl, rfl⟩)
  simpa using this
theorem wv_fin {L : List Int} (h : u64s L) : (wv L 0 false).2 = false ↔ ∀ x ∈ L, fi x := by
  rw [wv_eq h]
  have e : (WV (hN L) (hP L) (hM L)).2 = false ↔ hN L = false ∧ hP L = false ∧ hM L = false := by
    unfold WV; cases hN L <;> cases hP L <;> cases hM L <;> simp
  rw [e]
  unfold hN hP hM
  rw [List.any_eq_false, List.any_eq_false, List.any_eq_false]
  constructor
  · rintro ⟨h1, h2, h3⟩ x hx
    have hb := h x hx
    refine ⟨hb.1, hb.2, cls_fi.1 ⟨by simpa using h1 x hx, fun h4 => ?_⟩⟩
    rcases (cls_inf hb.1 hb.2).1 h4 with h5 | h5
    · exact h2 x hx (by simpa using h5)
    · exact h3 x hx (by simpa using h5)
  · intro hf
    refine ⟨fun x hx => ?_, fun x hx => ?_, fun x hx => ?_⟩
    · have := cls_fi.2 (hf x hx).2.2; simpa using this.1
    · have hb := h x hx
      have := cls_fi.2 (hf x hx).2.2
      intro h5
      exact this.2 ((cls_inf hb.1 hb.2).2 (.inl (by simpa using h5)))
    · have hb := h x hx
      have := cls_fi.2 (hf x hx).2.2
      intro h5
      exact this.2 ((cls_inf hb.1 hb.2).2 (.inr (by simpa using h5)))
/-- zeros -/
def sm (L : List Int) : Bool := L.all fun x => x == L.headD 0
def ZR (L : List Int) (mode : Int) : Int := if L = [] then 0 else if sm L = true then L.headD 0 else if mode = 2 then 9223372036854775808 else 0
/-- what All tells -/
noncomputable def AT (L : List Int) (mode : Int) : Int × Bool × Int :=
  if ¬ (0 ≤ mode ∧ mode ≤ 4) then (0, false, 1)
  else if 200 < L.length then (0, false, 2)
  else if (wv L 0 false).2 = true then ((wv L 0 false).1, false, 0)
  else if (tot L dz).m = 0 then (ZR L mode, false, 0)
  else (TX (tot L dz) mode, TL (tot L dz) mode, 0)
theorem tot_ok {L : List Int} (h : ∀ x ∈ L, fi x) (hl : ¬ 200 < L.length) : Ok (tot L dz) ∧ S (tot L dz) = vs L := by
  have := tot_fit L dz 0 h fit_zero (by omega)
  refine ⟨this.1.ok, ?_⟩
  rw [this.2, show S dz = 0 from sc_zero.2 rfl]; omega
theorem S_m {d : Dy} : d.m = 0 ↔ S d = 0 := sc_zero.symm
end SC
end Go.Proofs.YtelblhgagpkjmaaGreatDoor

/-
  Package sum, pure: what the laws ask.
-/
namespace Go.Proofs.YtelblhgagpkjmaaGreatDoor
set_option linter.unusedVariables false
set_option linter.unusedSimpArgs false
open Go.RowKit
set_option linter.unusedVariables false
set_option linter.unusedSimpArgs false
namespace SC
open L NC NK DC RC
theorem sm_iff {L : List Int} : sm L = true ↔ ∃ c, ∀ x ∈ L, x = c := by
  unfold sm
  rw [List.all_eq_true]
  constructor
  · intro h; exact ⟨L.headD 0, fun x hx => by simpa using h x hx⟩
  · rintro ⟨c, h⟩ x hx
    cases L with
    | nil => cases hx
    | cons y t => simp; rw [h x hx, h y (by simp)]
theorem head_mem {L : List Int} (h : L ≠ []) : L.headD 0 ∈ L := by
  cases L with
  | nil => exact absurd rfl h
  | cons y t => simp
/-- values -/
theorem fi_mod {x : Int} (h : fi x) : x % 9223372036854775808 ≤ 9218868437227405311 := (of_p h.1 h.2.1 h.2.2).2.2.2
theorem fi_of {x : Int} (h0 : 0 ≤ x) (h1 : x ≤ 18446744073709551615) (h : x % 9223372036854775808 ≤ 9218868437227405311) : fi x := ⟨h0, h1, by unfold F.exq; omega⟩
theorem val_rnk {x : Int} (h : fi x) : (0 ≤ F.rnk x → val x = U (F.rnk x)) ∧ (F.rnk x < 0 → val x = -U (-F.rnk x)) := by
  rw [val_eq h]
  have h0 := h.1
  have h1 := h.2.1
  have hs := F.sgn_iff x
  have hs' := F.sgn_iff' x
  cases hc : F.sgn x
  · have h2 := hs'.1 hc
    have e : F.rnk x = x := by unfold F.rnk; rw [if_pos h2]
    rw [e]
    refine ⟨fun _ => ?_, fun h => by omega⟩
    unfold sgm
    rw [show x % 9223372036854775808 = x by omega]; simp
  · have h2 := hs.1 hc
    have e : F.rnk x = 9223372036854775808 - x := by unfold F.rnk; rw [if_neg (by omega)]
    rw [e]
    unfold sgm
    refine ⟨fun h3 => ?_, fun h3 => ?_⟩
    · rw [show x % 9223372036854775808 = 0 by omega, show 9223372036854775808 - x = 0 by omega, U_zero]; simp
    · rw [show x % 9223372036854775808 = -(9223372036854775808 - x) by omega]; simp
theorem val_pos {x : Int} (hx : fi x) (h : 0 ≤ F.rnk x) : 0 ≤ val x := by rw [(val_rnk hx).1 h]; exact U_pos h
theorem val_zero {x : Int} (hx : fi x) (h : val x = 0) : x = 0 ∨ x = 9223372036854775808 := by
  have h0 := hx.1
  have h1 := hx.2.1
  rw [val_eq hx] at h
  have hu : U (x % 9223372036854775808) = 0 := by
    unfold sgm at h
    split at h <;> omega
  have h2 : ¬ 0 < x % 9223372036854775808 := fun h3 => by
    have := U_lt (r := 0) (by omega) h3
    rw [U_zero] at this
    omega
  omega
theorem vs_const {L : List Int} {c : Int} (h : ∀ x ∈ L, x = c) : vs L = L.length * val c := by
  induction L with
  | nil => simp [vs]
  | cons x t ih =>
    have := h x (by simp)
    subst this
    rw [vs, ih fun y hy => h y (by simp [hy]), List.length_cons]
    have e : ((t.length + 1 : Nat) : Int) = t.length + 1 := by omega
    rw [e, Int.add_mul]; omega
theorem ZR_zero {L : List Int} (mode : Int) (hf : ∀ x ∈ L, fi x) (h : vs L = 0) : ZR L mode = 0 ∨ ZR L mode = 9223372036854775808 := by
  unfold ZR
  by_cases h0 : L = []
  · rw [if_pos h0]; exact .inl rfl
  · rw [if_neg h0]
    by_cases h1 : sm L = true
    · rw [if_pos h1]
      obtain ⟨c, hc⟩ := sm_iff.1 h1
      have hm := head_mem h0
      rw [hc _ hm]
      rw [vs_const hc] at h
      have hfc : fi c := by have := hf _ hm; rwa [hc _ hm] at this
      rcases Int.mul_eq_zero.1 h with h2 | h2
      · have : L.length = 0 := by omega
        exact absurd (List.length_eq_zero_iff.1 this) h0
      · exact val_zero hfc h2
    · rw [if_neg h1]; split <;> simp
/-- the finite case -/
theorem AT_fin {L : List Int} {mode : Int} (hm : 0 ≤ mode ∧ mode ≤ 4) (hl : ¬ 200 < L.length) (hf : ∀ x ∈ L, fi x) :
    (vs L = 0 → AT L mode = (ZR L mode, false, 0)) ∧ (vs L ≠ 0 → AT L mode = (TX (tot L dz) mode, TL (tot L dz) mode, 0)) := by
  have hu : u64s L := fun x hx => ⟨(hf x hx).1, (hf x hx).2.1⟩
  have h2 := (wv_fin hu).2 hf
  have t := tot_ok hf hl
  unfold AT
  rw [if_neg (by simpa using hm), if_neg hl, if_neg (by rw [h2]; simp)]
  constructor
  · intro h; rw [if_pos (by rw [S_m, t.2]; exact h)]
  · intro h; rw [if_neg (by rw [S_m, t.2]; exact h)]
/-- two numbers -/
theorem u2 {x y : Int} (hx : 0 ≤ x ∧ x ≤ 18446744073709551615) (hy : 0 ≤ y ∧ y ≤ 18446744073709551615) : u64s [x, y] := by
  intro z hz; simp at hz; rcases hz with rfl | rfl <;> assumption
theorem f2 {x y : Int} (hx : fi x) (hy : fi y) : ∀ z ∈ [x, y], fi z := by
  intro z hz; simp at hz; rcases hz with rfl | rfl <;> assumption
theorem AT_wv {L : List Int} {mode : Int} (hm : 0 ≤ mode ∧ mode ≤ 4) (hl : ¬ 200 < L.length) (hu : u64s L) (h : ¬ ∀ x ∈ L, fi x) : AT L mode = ((WV (hN L) (hP L) (hM L)).1, false, 0) := by
  have h2 : (wv L 0 false).2 = true := by
    rcases Bool.eq_false_or_eq_true (wv L 0 false).2 with h3 | h3
    · exact h3
    · exact absurd ((wv_fin hu).1 h3) h
  unfold AT
  rw [if_neg (by simpa using hm), if_neg hl, if_pos h2, wv_eq hu]
theorem AT_no {L : List Int} {mode : Int} (hm : ¬ (0 ≤ mode ∧ mode ≤ 4)) : AT L mode = (0, false, 1) := by unfold AT; rw [if_pos hm]
theorem AT_large {L : List Int} {mode : Int} (hm : 0 ≤ mode ∧ mode ≤ 4) (hl : 200 < L.length) : AT L mode = (0, false, 2) := by unfold AT; rw [if_neg (by simpa using hm), if_pos hl]
theorem AT_bd {L : List Int} (mode : Int) (hu : u64s L) : 0 ≤ (AT L mode).1 ∧ (AT L mode).1 ≤ 18446744073709551615 := by
  by_cases hm : 0 ≤ mode ∧ mode ≤ 4
  · by_cases hl : 200 < L.length
    · rw [AT_large hm hl]; exact ⟨by simp, by simp⟩
    · by_cases hf : ∀ x ∈ L, fi x
      · have a := AT_fin hm hl hf
        have t := tot_ok hf hl
        by_cases h : vs L = 0
        · rw [a.1 h]; rcases ZR_zero mode hf h with e | e <;> rw [e] <;> simp
        · rw [a.2 h]
          have := TX_bd (tot L dz) mode fun _ => t.1
          exact ⟨this.1, this.2.1⟩
      · rw [AT_wv hm hl hu hf]
        unfold WV
        cases hN L <;> cases hP L <;> cases hM L <;> simp
  · rw [AT_no hm]; exact ⟨by simp, by simp⟩
end SC
end Go.Proofs.YtelblhgagpkjmaaGreatDoor

/-
  Package sum, pure: turned; small ones; Sterbenz; in order; once.
-/
namespace Go.Proofs.YtelblhgagpkjmaaGreatDoor
set_option linter.unusedVariables false
set_option linter.unusedSimpArgs false
open Go.RowKit
set_option linter.unusedVariables false
set_option linter.unusedSimpArgs false
namespace SC
open L NC NK DC RC
/-- what has few bits is a number -/
theorem rep : ∀ (k : Nat) (q : Int), 0 ≤ q → q < 9007199254740992 → ∃ r, 0 ≤ r ∧ V r = q * 2 ^ k := by
  intro k
  induction k with
  | zero =>
    intro q h0 h1
    have := (V_of (k := 0) h0 h1 (.inl rfl)).1
    exact ⟨((0 : Nat) : Int) * 4503599627370496 + q, by omega, this⟩
  | succ k ih =>
    intro q h0 h1
    by_cases h2 : 4503599627370496 ≤ q
    · exact ⟨_, by omega, (V_of (k := k + 1) h0 h1 (.inr h2)).1⟩
    · obtain ⟨r, r0, hr⟩ := ih (2 * q) (by omega) (by omega)
      refine ⟨r, r0, ?_⟩
      rw [hr, Int.pow_succ, Int.mul_comm (2 ^ k) 2, ← Int.mul_assoc, Int.mul_comm q 2]
theorem exact_p {d : Dy} {mode r : Int} (hm : 0 ≤ mode ∧ mode ≤ 4) (h : Ok d) (r0 : 0 ≤ r) (r1 : r ≤ 9218868437227405311) (e : A d = U r) : TL d mode = false ∧ fi (TX d mode) ∧ val (TX d mode) = S d := by
  have t := tow_exact r0 r1
  rw [← e] at t
  obtain ⟨e1, e2, -⟩ := TX_of h hm t
  rw [ry_none] at e1
  have b := rx_bd (b := ng d) r0 (show r ≤ 9218868437227405312 by omega)
  have hmod : rx (ng d) r % 9223372036854775808 = r ∧ F.sgn (rx (ng d) r) = ng d := by
    unfold rx F.neg F.sgn
    cases ng d
    · simp; omega
    · simp; rw [if_pos (by omega)]; omega
  have hf : fi (TX d mode) := by
    rw [e1]
    exact fi_of b.1 b.2.1 (by rw [hmod.1]; omega)
  refine ⟨by rw [e2]; rfl, hf, ?_⟩
  rw [val_eq hf, e1, hmod.1, hmod.2, ← e]
  have a := A_abs d
  rcases Int.lt_or_le (S d) 0 with h1 | h1
  · rw [(a.2 h1).1, (a.2 h1).2]; unfold sgm; simp
  · rw [(a.1 h1).1, (a.1 h1).2]; unfold sgm; simp
/-- the unit of a number -/
theorem unit_ex {x : Int} (h : fi x) : ∃ (k : Nat) (q : Int), 0 ≤ q ∧ q < 9007199254740992 ∧ val x = sgm (F.sgn x) (q * sc 1 (k - 1074)) := by
  have h2 := fi_mod h
  obtain ⟨k, q, e, q0, q1, hc⟩ := r_parts (show 0 ≤ x % 9223372036854775808 by omega)
  refine ⟨k, q, q0, q1, ?_⟩
  rw [val_eq h, e, (U_of q0 q1 hc).1]
end SC
end Go.Proofs.YtelblhgagpkjmaaGreatDoor

/-
  Package sum: checkMode, isZero, withoutValue, allSame, zero.
-/
namespace Go.Proofs.YtelblhgagpkjmaaGreatDoor
set_option linter.unusedVariables false
set_option linter.unusedSimpArgs false
open Go.RowKit
set_option linter.unusedVariables false
set_option linter.unusedSimpArgs false
namespace SC
open L NC NK DC RC
theorem checkMode_c (mode : Int) (w : World) (hT : TabD w) : Calls Tryz.prog 94 #[.int .i64 mode] w (DC.RetB w (.int .i64 (if 0 ≤ mode ∧ mode ≤ 4 then 0 else 1))) := by
  have TO := Lib.hid (To_d (.agg #[.bool false, .slice none 0 0, .int .i64 0]) dz mode w (GV.zero w).dv hT)
  have e : TE dz mode = if 0 ≤ mode ∧ mode ≤ 4 then 0 else 1 := by unfold TE; rw [if_neg (by simp [dz])]
  rw [e] at TO
  clear e hT
  generalize (if 0 ≤ mode ∧ mode ≤ 4 then 0 else 1 : Int) = E at *
  generalize TX dz mode = x at *
  generalize TL dz mode = l at *
  go_enter Tryz.func94, Tryz.ntmps94
  go_wp2_with (go_at_call 99; (with_reducible refine (TO.out).mono ?_); rintro e w1 ⟨rfl, hb⟩)
  go_ret
  exact ⟨rfl, hb⟩
theorem isZero_c (b : Bool) (A : Option Addr) (n c : Nat) (x : Int) (w : World) : Calls Tryz.prog 97 #[.agg #[.bool b, .slice A n c, .int .i64 x]] w (DC.RetB w (.bool (decide (n = 0)))) := by
  go_enter Tryz.func97, Tryz.ntmps97
  go_wp2
  go_ret
  exact ⟨ret_bool (by by_cases h : n = 0 <;> simp [h]), (Below.refl _ _).alloc (Nat.le_refl _) _⟩
theorem wv_drop {L : List Int} {k : Nat} {s : Int} {f : Bool} {x : Int} (hk : k < L.length) (hx : L.getD k 0 = x) : wv (L.drop k) s f = if F.cls x = 5 then (9221120237041090560, true) else if F.cls x = 4 then (if f = true ∧ x ≠ s then (9221120237041090560, true) else wv (L.drop (k + 1)) x true) else wv (L.drop (k + 1)) s f := by
  rw [List.drop_eq_getElem_cons hk]
  have e : L[k] = x := by rw [← hx, List.getD_eq_getElem?_getD, List.getElem?_eq_getElem hk]; rfl
  rw [e]; rfl
theorem u64s_at {L : List Int} (h : u64s L) (k : Nat) : 0 ≤ L.getD k 0 ∧ L.getD k 0 ≤ 18446744073709551615 := by
  by_cases hk : k < L.length
  · rw [List.getD_eq_getElem?_getD, List.getElem?_eq_getElem hk]; exact h _ (List.getElem_mem hk)
  · rw [List.getD_eq_getElem?_getD, List.getElem?_eq_none (by omega)]; simp
theorem withoutValue_c (A : Option Addr) (n c : Nat) (L : List Int) (w : World) (hs : Sl .u64 w (.slice A n c) L) (hu : u64s L) (hl : L.length ≤ 200) :
    Calls Tryz.prog 95 #[.slice A n c] w fun e w' => e = .returned (.tuple #[.int .u64 (wv L 0 false).1, .bool (wv L 0 false).2]) ∧ w = w' := by
  have HS := Lib.hid hs
  obtain ⟨A', c', e, hc, hcell⟩ := hs.open_
  injection e with e1 e2 e3
  subst e1
  subst e3
  rw [← e2] at hl hc
  have HN := Lib.hid e2
  have HU := Lib.hid hu
  obtain ⟨R, hR⟩ : ∃ R, wv L 0 false = R := ⟨_, rfl⟩
  rw [hR]
  have HR := Lib.hid hR
  clear e2 hcell hs hu hR
  go_enter Tryz.func95, Tryz.ntmps95
  go_wp2
  go_loop [10, 4, 5] (fun iv sv fv => ∃ (k : Nat) (s : Int) (f : Bool), iv = .int .i64 k ∧ k ≤ n ∧ sv = .int .u64 s ∧ fv = .bool f ∧ Hid (wv (L.drop k) s f = R)) (fun iv _ _ => n - (intOf iv).toNat)
  case atStart => exact ⟨0, 0, false, rfl, by omega, rfl, rfl, HR.out⟩
  case round =>
    obtain ⟨k, s, f, rfl, hk, rfl, rfl, hr⟩ := hrel
    by_cases hkn : k < n
    · obtain ⟨ad, c', e, hc', hb, hcell⟩ := HS.out.at_ k (by rw [← HN.out]; exact hkn)
      injection e with e1 e2 e3
      subst e1
      clear e2 e3 hc' c' hb
      obtain ⟨x, hx⟩ : ∃ x, L.getD k 0 = x := ⟨_, rfl⟩
      have hb := u64s_at HU.out k
      have hd := wv_drop (s := s) (f := f) (by rw [← HN.out]; exact hkn) hx
      rw [hr.out] at hd
      rw [hx] at hcell hb
      have CL : Hid (∀ W : World, Calls Tryz.prog 47 #[.int .u64 x] W fun e w' => e = .returned (.int .i64 (F.cls x)) ∧ W = w') := fun W => FloatC.Class_c x hb.1 hb.2 W
      clear hx hb
      by_cases h5 : F.cls x = 5
      · rw [if_pos h5] at hd
        have t5 : (F.cls x == 5) = true := by rw [h5]; rfl
        subst hd
        generalize F.cls x = K at *
        clear h5
        go_wp2_with (first | (go_at_call 47; (with_reducible refine (CL.out _).mono ?_); rintro e w1 ⟨rfl, rfl⟩))
        go_ret2
        exact ⟨rfl, rfl⟩
      · rw [if_neg h5] at hd
        have t5 : (F.cls x == 5) = false := by rw [beq_eq_false_iff_ne]; exact h5
        by_cases h4 : F.cls x = 4
        · rw [if_pos h4] at hd
          have t4 : (F.cls x == 4) = true := by rw [h4]; rfl
          by_cases hf : f = true ∧ x ≠ s
          · rw [if_pos hf] at hd
            obtain ⟨rfl, hxs⟩ := hf
            have tx : (x != s) = true := by simp [hxs]
            subst hd
            generalize F.cls x = K at *
            clear h5 h4 hxs
            go_wp2_with (first | (go_at_call 47; (with_reducible refine (CL.out _).mono ?_); rintro e w1 ⟨rfl, rfl⟩))
            go_ret2
            exact ⟨rfl, rfl⟩
          · rw [if_neg hf] at hd
            have HD := Lib.hid hd.symm
            have tf : f = false ∨ (f = true ∧ (x != s) = false) := by
              cases f
              · exact .inl rfl
              · right; refine ⟨rfl, ?_⟩
                rcases Classical.em (x = s) with h | h
                · simp [h]
                · exact absurd ⟨rfl, h⟩ hf
            generalize F.cls x = K at *
            clear h5 h4 hf hd
            rcases tf with rfl | ⟨rfl, tx⟩
            all_goals (
              go_wp2_with (first | (go_at_call 47; (with_reducible refine (CL.out _).mono ?_); rintro e w1 ⟨rfl, rfl⟩))
              go_round
              case rel => exact ⟨k + 1, x, true, by go_num, by omega, rfl, rfl, HD.out⟩
              case measure => simp [intOf]; omega)
        · rw [if_neg h4] at hd
          have t4 : (F.cls x == 4) = false := by rw [beq_eq_false_iff_ne]; exact h4
          have HD := Lib.hid hd.symm
          generalize F.cls x = K at *
          clear h5 h4 hd
          go_wp2_with (first | (go_at_call 47; (with_reducible refine (CL.out _).mono ?_); rintro e w1 ⟨rfl, rfl⟩))
          go_round
          case rel => exact ⟨k + 1, s, f, by go_num, by omega, rfl, rfl, HD.out⟩
          case measure => simp [intOf]; omega
    · have hkn2 : k = n := by omega
      subst hkn2
      have he : wv (L.drop k) s f = (s, f) := by rw [HN.out, List.drop_length]; rfl
      rw [hr.out] at he
      subst he
      go_wp2
      go_ret2
      exact ⟨rfl, rfl⟩
theorem clo_c (x y : Int) (ad : Addr) (n c B : Nat) (w : World) (hB : w.cell? ⟨B, 0, none⟩ = some (.slice (some ad) n c)) (h0 : 0 < n) (hy : w.cell? (ad.add 0) = some (.int .u64 y)) :
    Calls Tryz.prog 129 #[.int .u64 x, .pointer (some ⟨B, 0, none⟩)] w fun e w' => e = .returned (.bool (x != y)) ∧ w = w' := by
  have hy2 : w.cell? ad = some (.int .u64 y) := by simpa [Addr.add] using hy
  go_enter Tryz.func129, Tryz.ntmps129
  go_wp2
  go_ret
  exact ⟨rfl, rfl⟩
/-- the first place where the closure says yes -/
theorem IndexFunc_c (A : Option Addr) (n c : Nat) (L : List Int) (B : Nat) (w : World) (hs : Sl .u64 w (.slice A n c) L) (hB : w.cell? ⟨B, 0, none⟩ = some (.slice A n c)) (hl : L.length ≤ 200) (h0 : 0 < n) :
    Calls Tryz.prog 57 #[.slice A n c, .func (.func 129) #[] #[.pointer (some ⟨B, 0, none⟩)]] w fun e w' => ∃ r : Int, e = .returned (.int .i64 r) ∧ decide (r ≥ 0) = !sm L ∧ w = w' := by
  have HS := Lib.hid hs
  obtain ⟨A', c', e, hc, hcell⟩ := hs.open_
  injection e with e1 e2 e3
  subst e1
  subst e3
  rw [← e2] at hl hc
  have HN := Lib.hid e2
  obtain ⟨ad, rfl, hbl, hc0⟩ := hcell 0 (by rw [← e2]; exact h0)
  obtain ⟨y, hy⟩ : ∃ y, L.getD 0 0 = y := ⟨_, rfl⟩
  rw [hy] at hc0
  have eS : sm L = L.all fun x => x == y := by
    unfold sm
    have : L.headD 0 = y := by rw [← hy]; cases L <;> rfl
    rw [this]
  obtain ⟨R, hR⟩ : ∃ R, sm L = R := ⟨_, rfl⟩
  rw [hR] at eS ⊢
  have HR := Lib.hid eS
  have CC : Hid (∀ x : Int, Calls Tryz.prog 129 #[.int .u64 x, .pointer (some ⟨B, 0, none⟩)] w fun e w' => e = .returned (.bool (x != y)) ∧ w = w') := fun x => clo_c x y ad n c B w hB h0 hc0
  clear e2 hcell hs hR hy eS hB hc0
  go_enter Tryz.func57, Tryz.ntmps57
  go_wp2
  go_loop [8] (fun iv => ∃ k : Nat, iv = .int .i64 k ∧ k ≤ n ∧ Hid (∀ x ∈ L.take k, x = y)) (fun iv => n - (intOf iv).toNat)
  case atStart => exact ⟨0, rfl, by omega, by intro x hx; simp at hx⟩
  case round =>
    obtain ⟨k, rfl, hk, hr⟩ := hrel
    by_cases hkn : k < n
    · obtain ⟨ad2, c', e, hc', hb, hcell⟩ := HS.out.at_ k (by rw [← HN.out]; exact hkn)
      injection e with e1 e2 e3
      obtain rfl := Option.some.inj e1
      clear e2 e3 hc' c' hb e1
      obtain ⟨x, hx⟩ : ∃ x, L.getD k 0 = x := ⟨_, rfl⟩
      have hx2 : L[k]? = some x := by
        rw [List.getD_eq_getElem?_getD] at hx
        rw [List.getElem?_eq_getElem (by rw [← HN.out]; exact hkn)] at hx ⊢
        rw [← hx]; rfl
      have HX2 := Lib.hid hx2
      rw [hx] at hcell
      clear hx hx2
      by_cases he : x = y
      · have tx : (x != y) = false := by simp [he]
        have HE := Lib.hid he
        clear he
        go_wp2_with (go_at_call 129; (with_reducible refine (CC.out _).mono ?_); rintro e w1 ⟨rfl, rfl⟩)
        go_round
        case rel => exact ⟨k + 1, by go_num, by omega, by
          intro z hz
          rw [List.take_add_one, HX2.out] at hz
          simp at hz
          rcases hz with hz | rfl
          · exact hr.out z hz
          · exact HE.out⟩
        case measure => simp [intOf]; omega
      · have tx : (x != y) = true := by simp [he]
        have HE := Lib.hid he
        clear he
        go_wp2_with (go_at_call 129; (with_reducible refine (CC.out _).mono ?_); rintro e w1 ⟨rfl, rfl⟩)
        go_ret
        refine ⟨_, rfl, ?_, rfl⟩
        have hR : R = false := by
          rw [HR.out, List.all_eq_false]
          refine ⟨x, List.mem_of_getElem? HX2.out, ?_⟩
          simpa using HE.out
        rw [hR]
        simp
    · have hkn2 : k = n := by omega
      subst hkn2
      have hR : R = true := by
        rw [HR.out, List.all_eq_true]
        intro x hx
        have := hr.out x (by rw [HN.out, List.take_length]; exact hx)
        simp [this]
      go_wp2
      go_ret
      exact ⟨_, rfl, by first | decide | (rw [hR]; decide), rfl⟩
theorem ContainsFunc_c (A : Option Addr) (n c : Nat) (L : List Int) (B : Nat) (w : World) (hs : Sl .u64 w (.slice A n c) L) (hB : w.cell? ⟨B, 0, none⟩ = some (.slice A n c)) (hl : L.length ≤ 200) (h0 : 0 < n) :
    Calls Tryz.prog 30 #[.slice A n c, .func (.func 129) #[] #[.pointer (some ⟨B, 0, none⟩)]] w fun e w' => e = .returned (.bool (!sm L)) ∧ w = w' := by
  have IF := Lib.hid (IndexFunc_c A n c L B w hs hB hl h0)
  obtain ⟨R, hR⟩ : ∃ R, sm L = R := ⟨_, rfl⟩
  rw [hR] at IF ⊢
  clear hs hB hl h0 hR
  go_enter Tryz.func30, Tryz.ntmps30
  go_wp2_with (go_at_call 57; (with_reducible refine (IF.out).mono ?_); rintro e w1 ⟨r, rfl, hr, rfl⟩; have HR := Lib.hid hr; clear hr)
  go_ret
  exact ⟨ret_bool HR.out, rfl⟩
theorem allSame_c (A : Option Addr) (n c : Nat) (L : List Int) (w : World) (hs : Sl .u64 w (.slice A n c) L) (hl : L.length ≤ 200) (h0 : 0 < n) :
    Calls Tryz.prog 118 #[.slice A n c] w (DC.RetB w (.bool (sm L))) := by
  have hs2 := hs.alloc (.cells #[.slice A n c] 22)
  have D0 := al1 w (.cells #[.slice A n c] 22)
  have hB := (Blk.new w 22 #[.slice A n c]).at_ 0 rfl
  obtain ⟨W0, hW0⟩ : ∃ W0, w.alloc (.cells #[.slice A n c] 22) = W0 := ⟨_, rfl⟩
  rw [hW0] at hs2 D0 hB
  have CF := Lib.hid (ContainsFunc_c A n c L w.heap.size W0 hs2 hB hl h0)
  have HW0 := Lib.hid hW0
  have D0 := Lib.hid D0
  obtain ⟨R, hR⟩ : ∃ R, sm L = R := ⟨_, rfl⟩
  rw [hR] at CF ⊢
  clear hs hs2 hW0 hR hl
  go_enter Tryz.func118, Tryz.ntmps118
  go_wp2_with (go_at_call 30; rw [HW0.out]; (with_reducible refine (CF.out).mono ?_); rintro e w1 ⟨rfl, rfl⟩)
  go_ret
  exact ⟨ret_bool (by simp), D0.out⟩
theorem zero_c (A : Option Addr) (n c : Nat) (L : List Int) (mode : Int) (w : World) (hs : Sl .u64 w (.slice A n c) L) (hl : L.length ≤ 200) :
    Calls Tryz.prog 98 #[.slice A n c, .int .i64 mode] w (DC.RetB w (.int .u64 (ZR L mode))) := by
  obtain ⟨A', c', e, hc, hcell⟩ := hs.open_
  injection e with e1 e2 e3
  subst e1
  subst e3
  unfold ZR
  by_cases h0 : L = []
  · rw [if_pos h0]
    have hn : n = 0 := by rw [e2, h0]; rfl
    clear hcell hs e2 hc
    subst hn
    go_enter Tryz.func98, Tryz.ntmps98
    go_wp2
    go_ret
    exact ⟨rfl, Below.refl _ _⟩
  · rw [if_neg h0]
    have hn : 0 < n := by rw [e2]; exact List.length_pos_iff.2 h0
    have AS := Lib.hid (allSame_c A n c L w hs hl hn)
    obtain ⟨ad, rfl, hbl, hc0⟩ := hcell 0 (by rw [← e2]; exact hn)
    have hy : L.getD 0 0 = L.headD 0 := by cases L <;> rfl
    rw [hy] at hc0
    obtain ⟨y, hy⟩ : ∃ y, L.headD 0 = y := ⟨_, rfl⟩
    rw [hy] at hc0 ⊢
    rw [← e2] at hl
    obtain ⟨R, hR⟩ : ∃ R, sm L = R := ⟨_, rfl⟩
    rw [hR] at AS ⊢
    have hn0 : (n : Int) ≠ 0 := by omega
    have K0 : Hid (∀ W, Below w.heap.size w W → W.cell? ad = some (.int .u64 y)) := fun W hW => by
      have h9 : w.cell? ad = some (.int .u64 y) := by simpa [Addr.add] using hc0
      exact (hW.cell hbl).trans h9
    clear hcell hs hy hR h0 hc0 e2
    cases R
    · rw [if_neg (by simp)]
      by_cases hm : mode = 2
      · subst hm
        rw [if_pos rfl]
        go_enter Tryz.func98, Tryz.ntmps98
        go_wp2_with (go_at_call 118; (with_reducible refine (AS.out).mono ?_); rintro e w1 ⟨rfl, hb⟩; have hb := Lib.hid hb)
        go_ret
        exact ⟨rfl, hb.out⟩
      · rw [if_neg hm]
        have tm : (mode == 2) = false := by simp [hm]
        clear hm
        go_enter Tryz.func98, Tryz.ntmps98
        go_wp2_with (go_at_call 118; (with_reducible refine (AS.out).mono ?_); rintro e w1 ⟨rfl, hb⟩; have hb := Lib.hid hb)
        go_ret
        exact ⟨rfl, hb.out⟩
    · rw [if_pos rfl]
      go_enter Tryz.func98, Tryz.ntmps98
      go_wp2_with (go_at_call 118; (with_reducible refine (AS.out).mono ?_); rintro e w1 ⟨rfl, hb⟩; have k0 := K0.out _ hb; have hb := Lib.hid hb)
      go_ret
      exact ⟨rfl, hb.out⟩
end SC
end Go.Proofs.YtelblhgagpkjmaaGreatDoor

/-
  Package sum: exact.
-/
namespace Go.Proofs.YtelblhgagpkjmaaGreatDoor
set_option linter.unusedVariables false
set_option linter.unusedSimpArgs false
open Go.RowKit
set_option linter.unusedVariables false
set_option linter.unusedSimpArgs false
namespace SC
open L NC NK DC RC
theorem tot_append (a b : List Int) (d : Dy) : tot (a ++ b) d = tot b (tot a d) := by
  induction a generalizing d with
  | nil => rfl
  | cons x t ih => simp only [List.cons_append, tot]; exact ih _
theorem tot_succ {L : List Int} {k : Nat} {x : Int} (hx : L[k]? = some x) (d : Dy) : tot (L.take (k + 1)) d = (DC.Add (tot (L.take k) d) (OfD x).d).d := by
  rw [List.take_add_one, hx, tot_append]; rfl
/-- a Dyad told by value -/
def RetG (w : World) (d : Dy) (e : Ending) (w' : World) : Prop := ∃ b A n c x, e = .returned (.agg #[.bool b, .slice A n c, .int .i64 x]) ∧ GV w' b A n c x d ∧ Below w.heap.size w w'
/-- behind both allocations -/
theorem two0 (w : World) : ∃ W0, (w.alloc (.cells #[.bool false, .slice none 0 0, .int .i64 0] 26)).alloc (.cells #[.bool false, .slice none 0 0, .int .i64 0] 26) = W0 ∧ Below w.heap.size w W0 ∧ W0.heap.size = w.heap.size + 2 ∧
    Blk W0 w.heap.size 26 #[.bool false, .slice none 0 0, .int .i64 0] ∧ Blk W0 (w.heap.size + 1) 26 #[.bool false, .slice none 0 0, .int .i64 0] := by
  refine ⟨_, rfl, (al1 w _).trans ((al1 _ _).mono (by simp)), by simp, (Blk.new w _ _).alloc _, ?_⟩
  have := Blk.new (w.alloc (.cells #[.bool false, .slice none 0 0, .int .i64 0] 26)) 26 #[.bool false, .slice none 0 0, .int .i64 0]
  rwa [show (w.alloc (.cells #[.bool false, .slice none 0 0, .int .i64 0] 26)).heap.size = w.heap.size + 1 by simp] at this
/-- what the loop of exact keeps: the result's cell, the total, its value -/
structure EX (w W : World) (b : Bool) (A : Option Addr) (n c : Nat) (x : Int) (d : Dy) : Prop where
  r : Blk W w.heap.size 26 #[.bool false, .slice none 0 0, .int .i64 0]
  t : Blk W (w.heap.size + 1) 26 #[.bool b, .slice A n c, .int .i64 x]
  g : GV W b A n c x d
  b : Below w.heap.size w W
theorem EX.size {w W : World} {b A n c x d} (h : EX w W b A n c x d) : w.heap.size + 1 < W.heap.size := h.t.lt
theorem EX.below {w W W' : World} {b A n c x d} (h : EX w W b A n c x d) (hb : Below W.heap.size W W') : EX w W' b A n c x d :=
  ⟨h.r.below hb (by have := h.size; omega), h.t.below hb h.size, h.g.below hb, h.b.trans (hb.mono h.b.size)⟩
theorem EX.set {w W : World} {b A n c x d b' A' n' c' x' d'} (h : EX w W b A n c x d) (g : GV W b' A' n' c' x' d') :
    EX w (((W.setCell ⟨w.heap.size + 1, 0, none⟩ (.bool b')).setCell ⟨w.heap.size + 1, 1, none⟩ (.slice A' n' c')).setCell ⟨w.heap.size + 1, 2, none⟩ (.int .i64 x')) b' A' n' c' x' d' := by
  refine ⟨?_, Blk3 h.t _ _ _, g.set3 h.t _ _ _ (by intro z h; cases h) (by intro z h; cases h), below3 h.b (by omega) _ _ _⟩
  exact ((h.r.far (by simp) _).far (by simp) _).far (by simp) _
set_option maxRecDepth 100000 in
theorem exact_c (A : Option Addr) (n c : Nat) (L : List Int) (w : World) (hs : Sl .u64 w (.slice A n c) L) (hf : ∀ x ∈ L, fi x) (hl : L.length ≤ 200) (hT : TabD w) :
    Calls Tryz.prog 96 #[.slice A n c] w (RetG w (tot L dz)) := by
  have HS : Hid (∀ W, Below w.heap.size w W → Sl .u64 W (.slice A n c) L) := fun W hW => hs.below hW
  obtain ⟨A', c', e, hc, hcell⟩ := hs.open_
  injection e with e1 e2 e3
  subst e1
  subst e3
  rw [← e2] at hl hc
  have HN := Lib.hid e2
  have HF := Lib.hid hf
  have OF : Hid (∀ (W : World) (x : Int), fi x → Below w.heap.size w W → Calls Tryz.prog 44 #[.int .u64 x] W (RetD W (OfD x))) := fun W x hx hW => Of_d x hx.1 hx.2.1 W (hT.below hW)
  have AD : Hid (∀ (W : World) (u v : Value) (d1 d2 : Dy), DV W u d1 → DV W v d2 → Below w.heap.size w W → Calls Tryz.prog 17 #[u, v] W (RetD W (DC.Add d1 d2))) := fun W u v d1 d2 h1 h2 hW => Add_d u v d1 d2 W h1 h2 (hT.below hW)
  obtain ⟨W0, hW0, D0, SZ, R0, T0⟩ := two0 w
  have E0 : Hid (EX w W0 false none 0 0 0 dz) := ⟨R0, T0, GV.zero _, D0⟩
  have HW0 := Lib.hid hW0
  clear e2 hcell hs hf hT hW0 D0 SZ R0 T0
  go_enter Tryz.func96, Tryz.ntmps96
  go_wp2
  rw [HW0.out]
  go_loopw [10] (fun iv wr => ∃ (k : Nat) (b : Bool) (A' : Option Addr) (n' c' : Nat) (x' : Int), iv = .int .i64 k ∧ k ≤ n ∧ Hid (EX w wr b A' n' c' x' (tot (L.take k) dz))) (fun iv _ => n - (intOf iv).toNat)
  case atStart => exact ⟨0, _, _, _, _, _, rfl, by omega, E0.out⟩
  case round =>
    obtain ⟨k, bt, At, nt, ct, xt, rfl, hk, hE⟩ := hrel
    by_cases hkn : k < n
    · obtain ⟨ad, c', e, hc', hb, hcell⟩ := (HS.out _ hE.out.b).at_ k (by rw [← HN.out]; exact hkn)
      injection e with e1 e2 e3
      subst e1
      clear e2 e3 hc' c' hb
      obtain ⟨x, hx⟩ : ∃ x, L.getD k 0 = x := ⟨_, rfl⟩
      have hx2 : L[k]? = some x := by
        rw [List.getD_eq_getElem?_getD] at hx
        rw [List.getElem?_eq_getElem (by rw [← HN.out]; exact hkn)] at hx ⊢
        rw [← hx]; rfl
      have hfx : fi x := HF.out x (List.mem_of_getElem? hx2)
      have hd := tot_succ hx2 dz
      rw [hx] at hcell
      have HD := Lib.hid hd
      have HX := Lib.hid hfx
      obtain ⟨dt, hdt⟩ : ∃ dt, tot (L.take k) dz = dt := ⟨_, rfl⟩
      rw [hdt] at hE HD
      clear hx hx2 hfx hd hdt
      go_wp2_with (first
        | (go_at_call 44; (with_reducible refine (OF.out _ _ HX.out hE.out.b).mono ?_); rintro e w2 ⟨b2, A2, n2, c2, x2, rfl, hv2, hb2⟩; have s := hb2.alloc hb2.size (.cells #[.bool b2, .slice A2 n2 c2, .int .i64 x2] 26); have X2 := BD.new hv2.dv; have E2 := hE.out.below s; clear hv2 hb2 s; obtain ⟨q0, q1, q2⟩ := X2.bx; have p0 := E2.t.at_ 0 rfl; have p1 := E2.t.at_ 1 rfl; have p2 := E2.t.at_ 2 rfl; have E2 := Lib.hid E2)
        | (go_at_call 17; (with_reducible refine (AD.out _ _ _ _ _ E2.out.g.dv X2.dv E2.out.b).mono ?_); rintro e w3 ⟨b3, A3, n3, c3, x3, rfl, hv3, hb3⟩; have E3 := E2.out.below hb3; have p0 := E3.t.at_ 0 rfl; have p1 := E3.t.at_ 1 rfl; have p2 := E3.t.at_ 2 rfl; have f0 := E3.t.frozen 0; have f1 := E3.t.frozen 1; have f2 := E3.t.frozen 2; have E4 := Lib.hid (E3.set hv3); clear E3 hv3 hb3))
      go_roundw
      case rel => exact ⟨k + 1, _, _, _, _, _, by go_num, by omega, by rw [HD.out]; exact E4.out⟩
      case measure => simp [intOf]; omega
    · have hkn2 : k = n := by omega
      subst hkn2
      have he : L.take k = L := by rw [HN.out, List.take_length]
      rw [he] at hE
      have p0 := hE.out.t.at_ 0 rfl
      have p1 := hE.out.t.at_ 1 rfl
      have p2 := hE.out.t.at_ 2 rfl
      have t0 := hE.out.r.at_ 0 rfl
      have t1 := hE.out.r.at_ 1 rfl
      have t2 := hE.out.r.at_ 2 rfl
      have f0 := hE.out.r.frozen 0
      have f1 := hE.out.r.frozen 1
      have f2 := hE.out.r.frozen 2
      clear he
      go_wp2
      exact bodyPost_ret (v := .agg #[.bool bt, .slice At nt ct, .int .i64 xt]) (by simp [results, Tryz.results96, go_sem, t0, t1, t2]) rfl
        ⟨_, _, _, _, _, rfl, hE.out.g.set3 hE.out.r _ _ _ (by intro z h; cases h) (by intro z h; cases h), below3 hE.out.b (by omega) _ _ _⟩
end SC
end Go.Proofs.YtelblhgagpkjmaaGreatDoor

/-
  Package sum: All.
-/
namespace Go.Proofs.YtelblhgagpkjmaaGreatDoor
set_option linter.unusedVariables false
set_option linter.unusedSimpArgs false
open Go.RowKit
set_option linter.unusedVariables false
set_option linter.unusedSimpArgs false
namespace SC
open L NC NK DC RC
/-- what All, Add and Sub tell -/
def ATv (t : Int × Bool × Int) : Value := .tuple #[.int .u64 t.1, .bool t.2.1, .int .i64 t.2.2]
set_option maxRecDepth 100000 in
theorem All_c (A : Option Addr) (n c : Nat) (L : List Int) (mode : Int) (w : World) (hs : Sl .u64 w (.slice A n c) L) (hu : u64s L) (hl : L.length ≤ 9223372036854775807) (hT : TabD w) :
    Calls Tryz.prog 74 #[.slice A n c, .int .i64 mode] w (DC.RetB w (ATv (AT L mode))) := by
  obtain ⟨A', c', e, hc, hcell⟩ := hs.open_
  injection e with e1 e2 e3
  subst e1
  subst e3
  clear hcell
  have CM := Lib.hid (checkMode_c mode w hT)
  by_cases hm : 0 ≤ mode ∧ mode ≤ 4
  · rw [if_pos hm] at CM
    by_cases h2 : 200 < n
    · rw [AT_large hm (by rw [← e2]; exact h2)]
      have h3 : (n : Int) > 200 := by omega
      rw [← e2] at hl
      unfold ATv
      clear hs hu hm hT e2 hc h2
      go_enter Tryz.func74, Tryz.ntmps74
      go_wp2_with (go_at_call 94; (with_reducible refine (CM.out).mono ?_); rintro e w1 ⟨rfl, hb⟩; have hb := Lib.hid hb)
      go_ret3
      exact ⟨rfl, hb.out⟩
    · have hn : ¬ 200 < L.length := by rw [← e2]; exact h2
      have h3 : ¬ (n : Int) > 200 := by omega
      have WVc : Hid (∀ W, Below w.heap.size w W → Calls Tryz.prog 95 #[.slice A n c] W fun e w' => e = .returned (.tuple #[.int .u64 (wv L 0 false).1, .bool (wv L 0 false).2]) ∧ W = w') := fun W hW => withoutValue_c A n c L W (hs.below hW) hu (by omega)
      by_cases hf : ∀ x ∈ L, fi x
      · have hw := (wv_fin hu).2 hf
        rw [hw] at WVc
        generalize (wv L 0 false).1 = v1 at *
        have EXc : Hid (∀ W, Below w.heap.size w W → Calls Tryz.prog 96 #[.slice A n c] W (RetG W (tot L dz))) := fun W hW => exact_c A n c L W (hs.below hW) hf (by omega) (hT.below hW)
        have ZEc : Hid (∀ W, Below w.heap.size w W → Calls Tryz.prog 98 #[.slice A n c, .int .i64 mode] W (DC.RetB W (.int .u64 (ZR L mode)))) := fun W hW => zero_c A n c L mode W (hs.below hW) (by omega)
        have TOc : Hid (∀ (W : World) (v : Value), DV W v (tot L dz) → Below w.heap.size w W → Calls Tryz.prog 99 #[v, .int .i64 mode] W (DC.RetB W (.tuple #[.int .u64 (TX (tot L dz) mode), .bool (TL (tot L dz) mode), .int .i64 0]))) := fun W v hv hW => by
          have := To_d v _ mode W hv (hT.below hW)
          have e : TE (tot L dz) mode = 0 := by
            unfold TE
            rw [if_neg (by simpa using (tot_ok hf hn).1.1), if_pos hm]
          rwa [e] at this
        have a := AT_fin hm hn hf
        have t := tot_ok hf hn
        rw [← t.2, ← S_m] at a
        rw [← e2] at hl
        obtain ⟨X, hX⟩ : ∃ X, AT L mode = X := ⟨_, rfl⟩
        rw [hX] at a ⊢
        have gz : Hid (∀ (W : World) (b : Bool) (A : Option Addr) (n c : Nat) (x : Int), GV W b A n c x (tot L dz) → (n = 0 ↔ (tot L dz).m = 0)) := fun W b A n c x h => gv_zero h
        generalize TX (tot L dz) mode = tx at *
        generalize TL (tot L dz) mode = tl at *
        generalize tot L dz = d at *
        generalize ZR L mode = z at *
        have hl2 : ¬ (200 : Int) < n := by omega
        clear hs hu hT e2 hc h2 hn hf hw t hX
        by_cases h0 : d.m = 0
        · have ax := a.1 h0
          subst ax
          unfold ATv
          have gz2 : Hid (∀ (W : World) (b : Bool) (A : Option Addr) (n c : Nat) (x : Int), GV W b A n c x d → n = 0) := fun W b A n c x h => (gz.out W b A n c x h).2 h0
          clear a gz TOc h0 hm
          go_enter Tryz.func74, Tryz.ntmps74
          go_wp2_with (first
            | (go_at_call 94; (with_reducible refine (CM.out).mono ?_); rintro e w1 ⟨rfl, hb⟩; have D := Lib.hid hb; clear hb)
            | (go_at_call 95; (with_reducible refine (WVc.out _ D.out).mono ?_); rintro e w2 ⟨rfl, rfl⟩)
            | (go_at_call 96; (with_reducible refine (EXc.out _ D.out).mono ?_); rintro e w3 ⟨b3, A3, n3, c3, x3, rfl, hv, hb⟩; obtain rfl := gz2.out _ _ _ _ _ _ hv; have s := hb.alloc hb.size (.cells #[.bool b3, .slice A3 0 c3, .int .i64 x3] 26); have Xb := BD.new hv.dv; have D := Lib.hid (D.out.trans (s.mono D.out.size)); clear hv hb s; obtain ⟨b_0, b_1, b_2⟩ := Xb.bx)
            | (go_at_call 97; (with_reducible refine (isZero_c _ _ _ _ _ _).mono ?_); rintro e w4 ⟨rfl, hb⟩; have D := Lib.hid (D.out.trans (hb.mono D.out.size)); clear hb)
            | (go_at_call 98; (with_reducible refine (ZEc.out _ D.out).mono ?_); rintro e w5 ⟨rfl, hb⟩; have D := Lib.hid (D.out.trans (hb.mono D.out.size)); clear hb))
          go_ret3
          exact ⟨rfl, D.out⟩
        · have ax := a.2 fun h => h0 (S_m.2 h)
          subst ax
          unfold ATv
          have gz2 : Hid (∀ (W : World) (b : Bool) (A : Option Addr) (n c : Nat) (x : Int), GV W b A n c x d → n ≠ 0) := fun W b A n c x h h1 => h0 ((gz.out W b A n c x h).1 h1)
          clear a gz ZEc h0 hm
          go_enter Tryz.func74, Tryz.ntmps74
          go_wp2_with (first
            | (go_at_call 94; (with_reducible refine (CM.out).mono ?_); rintro e w1 ⟨rfl, hb⟩; have D := Lib.hid hb; clear hb)
            | (go_at_call 95; (with_reducible refine (WVc.out _ D.out).mono ?_); rintro e w2 ⟨rfl, rfl⟩)
            | (go_at_call 96; (with_reducible refine (EXc.out _ D.out).mono ?_); rintro e w3 ⟨b3, A3, n3, c3, x3, rfl, hv, hb⟩; have hn3 := gz2.out _ _ _ _ _ _ hv; have hd3 : decide (n3 = 0) = false := (by simpa using hn3); have s := hb.alloc hb.size (.cells #[.bool b3, .slice A3 n3 c3, .int .i64 x3] 26); have Xb := BD.new hv.dv; have D := Lib.hid (D.out.trans (s.mono D.out.size)); clear hv hb s; obtain ⟨b_0, b_1, b_2⟩ := Xb.bx)
            | (go_at_call 97; (with_reducible refine (isZero_c _ _ _ _ _ _).mono ?_); rintro e w4 ⟨rfl, hb⟩; have Xb := Xb.below hb; have D := Lib.hid (D.out.trans (hb.mono D.out.size)); clear hb; obtain ⟨b_0, b_1, b_2⟩ := Xb.bx)
            | (go_at_call 99; (with_reducible refine (TOc.out _ _ Xb.dv D.out).mono ?_); rintro e w5 ⟨rfl, hb⟩; have D := Lib.hid (D.out.trans (hb.mono D.out.size)); clear hb))
          go_ret3
          exact ⟨rfl, D.out⟩
      · have hw : (wv L 0 false).2 = true := by
          rcases Bool.eq_false_or_eq_true (wv L 0 false).2 with h | h
          · exact h
          · exact absurd ((wv_fin hu).1 h) hf
        rw [hw] at WVc
        have eA : AT L mode = ((wv L 0 false).1, false, 0) := by
          unfold AT
          rw [if_neg (by simpa using hm), if_neg hn, if_pos hw]
        rw [eA]
        generalize (wv L 0 false).1 = v1 at *
        rw [← e2] at hl
        unfold ATv
        clear hs hu hm hT e2 hc h2 hn hf hw eA
        go_enter Tryz.func74, Tryz.ntmps74
        go_wp2_with (first
          | (go_at_call 94; (with_reducible refine (CM.out).mono ?_); rintro e w1 ⟨rfl, hb⟩; have D := Lib.hid hb; clear hb)
          | (go_at_call 95; (with_reducible refine (WVc.out _ D.out).mono ?_); rintro e w2 ⟨rfl, rfl⟩))
        go_ret3
        exact ⟨rfl, D.out⟩
  · rw [if_neg hm] at CM
    rw [AT_no hm]
    unfold ATv
    clear hs hu hm hT e2 hc
    go_enter Tryz.func74, Tryz.ntmps74
    go_wp2_with (go_at_call 94; (with_reducible refine (CM.out).mono ?_); rintro e w1 ⟨rfl, hb⟩; have hb := Lib.hid hb)
    go_ret3
    exact ⟨rfl, hb.out⟩
end SC
end Go.Proofs.YtelblhgagpkjmaaGreatDoor

/-
  Package sum: Add, Sub.
-/
namespace Go.Proofs.YtelblhgagpkjmaaGreatDoor
set_option linter.unusedVariables false
set_option linter.unusedSimpArgs false
open Go.RowKit
set_option linter.unusedVariables false
set_option linter.unusedSimpArgs false
namespace SC
open L NC NK DC RC
theorem Add_c (x y mode : Int) (w : World) (hx : 0 ≤ x ∧ x ≤ 18446744073709551615) (hy : 0 ≤ y ∧ y ≤ 18446744073709551615) (hT : TabD w) :
    Calls Tryz.prog 49 #[.int .u64 x, .int .u64 y, .int .i64 mode] w (DC.RetB w (ATv (AT [x, y] mode))) := by
  have D0 := al1 w (.cells #[.int .u64 x, .int .u64 y] 23)
  have hs : Sl .u64 (w.alloc (.cells #[.int .u64 x, .int .u64 y] 23)) (.slice (some ⟨w.heap.size, 0, none⟩) 2 2) [x, y] := Row.sl (k := .u64) (e := 23) (L := [x, y]) (Blk.new w 23 #[.int .u64 x, .int .u64 y]) 2 (by simp)
  obtain ⟨W0, hW0⟩ : ∃ W0, w.alloc (.cells #[.int .u64 x, .int .u64 y] 23) = W0 := ⟨_, rfl⟩
  rw [hW0] at D0 hs
  have AC := Lib.hid (All_c _ _ _ _ mode W0 hs (u2 hx hy) (by simp) (hT.below D0))
  have HW0 := Lib.hid hW0
  have D0 := Lib.hid D0
  obtain ⟨t, ht⟩ : ∃ t, AT [x, y] mode = t := ⟨_, rfl⟩
  rw [ht] at AC ⊢
  obtain ⟨t1, t2, t3⟩ := t
  unfold ATv at AC ⊢
  clear hs hW0 hT ht hx hy
  go_enter Tryz.func49, Tryz.ntmps49
  go_wp2_with (go_at_call 74; rw [HW0.out]; (with_reducible refine (AC.out).mono ?_); rintro e w1 ⟨rfl, hb⟩; have hb := Lib.hid (D0.out.trans (hb.mono D0.out.size)))
  go_ret3
  exact ⟨rfl, hb.out⟩
theorem Sub_c (x y mode : Int) (w : World) (hx : 0 ≤ x ∧ x ≤ 18446744073709551615) (hy : 0 ≤ y ∧ y ≤ 18446744073709551615) (hT : TabD w) :
    Calls Tryz.prog 75 #[.int .u64 x, .int .u64 y, .int .i64 mode] w (DC.RetB w (ATv (AT [x, F.neg y] mode))) := by
  have NC' := Lib.hid (FloatC.Neg_c y hy.1 hy.2 w)
  have AC := Lib.hid (Add_c x (F.neg y) mode w hx (F.neg_bd y hy.1 hy.2) hT)
  obtain ⟨t, ht⟩ : ∃ t, AT [x, F.neg y] mode = t := ⟨_, rfl⟩
  rw [ht] at AC ⊢
  obtain ⟨t1, t2, t3⟩ := t
  unfold ATv at AC ⊢
  generalize F.neg y = ny at *
  clear hT ht hx hy
  go_enter Tryz.func75, Tryz.ntmps75
  go_wp2_with (first
    | (go_at_call 100; (with_reducible refine (NC'.out).mono ?_); rintro e w1 ⟨rfl, rfl⟩)
    | (go_at_call 49; (with_reducible refine (AC.out).mono ?_); rintro e w1 ⟨rfl, hb⟩; have hb := Lib.hid hb))
  go_ret3
  exact ⟨rfl, hb.out⟩
end SC
end Go.Proofs.YtelblhgagpkjmaaGreatDoor

/-
  Package sum: one and one, pure.
-/
namespace Go.Proofs.YtelblhgagpkjmaaGreatDoor
set_option linter.unusedVariables false
set_option linter.unusedSimpArgs false
open Go.RowKit
set_option linter.unusedVariables false
set_option linter.unusedSimpArgs false
namespace SC
open L NC NK DC RC
end SC
end Go.Proofs.YtelblhgagpkjmaaGreatDoor

/-
  Package sum: one and one, the walk.
-/
namespace Go.Proofs.YtelblhgagpkjmaaGreatDoor
set_option linter.unusedVariables false
set_option linter.unusedSimpArgs false
open Go.RowKit
set_option linter.unusedVariables false
set_option linter.unusedSimpArgs false
namespace SC
open L NC NK DC RC
end SC
end Go.Proofs.YtelblhgagpkjmaaGreatDoor

