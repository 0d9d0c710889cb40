/-
  Texts glued together for a claim: R4 R5 R6 U1 U2 U3 U4 U5 U6 U7 U8 U9.
-/
import Derived.Test.YtejglcpiihkenaaGreatDoorF7
import Derived.Test.YtejglcpiihkenaaGreatDoorF1
/-
  Package round: toward0.
-/
namespace Go.Proofs.YtejglcpiihkenaaGreatDoor
set_option linter.unusedVariables false
set_option linter.unusedSimpArgs false
open Go.RowKit
set_option linter.unusedVariables false
namespace RC
open L NC NK DC
open Z (Nz Tz cmpv)
theorem bits_ex : ∀ (f : Nat) (z : Int), 0 < z → z < 2 ^ f → ∃ k : Nat, k ≤ f ∧ 0 < k ∧ z < 2 ^ k ∧ 2 ^ (k - 1) ≤ z := by
  intro f
  induction f with
  | zero => intro z h0 h1; simp at h1; omega
  | succ f ih =>
    intro z h0 h1
    by_cases h : z < 2 ^ f
    · obtain ⟨k, a, b⟩ := ih z h0 h
      exact ⟨k, by omega, b⟩
    · exact ⟨f + 1, by omega, by omega, h1, by simp; omega⟩
theorem Bits_k {u : Value} {z : Int} {w : World} {k : Nat} (h : PV w u 0 z) (h1 : z < 2 ^ k) (h2 : 2 ^ (k - 1) ≤ z) (h0 : 0 < k) : Calls Tryz.prog 68 #[u] w (fun e w' => e = .returned (.tuple #[.int .i64 k, .int .i64 0]) ∧ w = w') := by
  refine (bits_p h).mono ?_
  rintro e w' ⟨n, rfl, h3, h4, -, rfl⟩
  obtain ⟨h5, h6⟩ := h4.out rfl
  have hz : 0 < z := by have := two_pos' (k - 1); omega
  have e : n = k := by
    rcases h6 with rfl | h6
    · simp at h5; omega
    · have a1 := two_lt (Int.lt_of_le_of_lt h6 h1)
      have a2 := two_lt (Int.lt_of_le_of_lt h2 h5)
      have n0 : n ≠ 0 := by rintro rfl; simp at h5; omega
      omega
  rw [e]
  exact ⟨rfl, rfl⟩
/-- behind the box of a Dyad and a rest's cell -/
theorem tbox (w : World) (b1 : Bool) (A1 : Option Addr) (n1 c1 : Nat) (x1 : Int) :
    ∃ W0, (w.alloc (.cells #[.bool b1, .slice A1 n1 c1, .int .i64 x1] 60)).alloc (.cells #[.bool false, .bool false] 113) = W0 ∧ Below w.heap.size w W0 ∧
    (∀ W, Below W0.heap.size W0 W → BX W w.heap.size b1 A1 n1 c1 x1 ∧ Blk W (w.heap.size + 1) 113 #[.bool false, .bool false]) := by
  obtain ⟨N1, N2, NS, NB⟩ := new2 w 60 113 #[.bool b1, .slice A1 n1 c1, .int .i64 x1] #[.bool false, .bool false] 0
  rw [World.drewN_zero] at N1 N2 NS NB
  exact ⟨_, rfl, NB, fun W h => ⟨BX.of (N1.below h N1.lt), N2.below h N2.lt⟩⟩
set_option maxRecDepth 100000 in
theorem toward0_z (b : Bool) (A : Option Addr) (c : Nat) (x : Int) (w : World) :
    Calls Tryz.prog 104 #[.agg #[.bool b, .slice A 0 c, .int .i64 x]] w (DC.RetB w (.tuple #[.int .u64 0, .agg #[.bool false, .bool false]])) := by
  obtain ⟨W0, hW0, D0, KB⟩ := tbox w b A 0 c x
  have IZ : Hid (∀ W, Calls Tryz.prog 94 #[.agg #[.bool b, .slice A 0 c, .int .i64 x]] W (DC.RetB W (.bool true))) := fun W => by
    have := isZero_c b A 0 c x W
    rwa [show decide (0 = 0) = true from rfl] at this
  have KB := Lib.hid KB
  have D0 := Lib.hid D0
  have HW0 := Lib.hid hW0
  clear hW0
  go_enter Tryz.func104, Tryz.ntmps104
  go_wp2_with (first
    | (go_at_call 94; rw [HW0.out]; (with_reducible refine (IZ.out _).mono ?_); rintro e w2 ⟨rfl, hb0⟩; have D := Lib.hid hb0; obtain ⟨⟨p0, p1, p2⟩, R2⟩ := KB.out _ D.out; have t0 := R2.at_ 0 rfl; have t1 := R2.at_ 1 rfl; have f0 := R2.frozen 0; have f1 := R2.frozen 1; have R2 := Lib.hid R2))
  exact bodyPost_ret (v := .tuple #[.int .u64 0, .agg #[.bool false, .bool false]]) (by simp [results, Tryz.results104, go_sem, t0, t1]) rfl
    ⟨rfl, below2 (D0.out.trans (D.out.mono D0.out.size)) (by omega) _ _⟩
set_option maxRecDepth 100000 in
theorem toward0_far (b : Bool) (A : Option Addr) (n c : Nat) (x z : Int) (k : Nat) (w : World) (h : PV w (.slice A n c) 0 z) (hn : n ≠ 0) (h1 : z < 2 ^ k) (h2 : 2 ^ (k - 1) ≤ z) (h0 : 0 < k) (hk : k ≤ 12800) (hx : -20000 ≤ x ∧ x ≤ 20000) (ht : 1024 < k + x) :
    Calls Tryz.prog 104 #[.agg #[.bool b, .slice A n c, .int .i64 x]] w (DC.RetB w (.tuple #[.int .u64 9218868437227405311, .agg #[.bool true, .bool true]])) := by
  obtain ⟨W0, hW0, D0, KB⟩ := tbox w b A n c x
  have IZ : Hid (∀ W, Calls Tryz.prog 94 #[.agg #[.bool b, .slice A n c, .int .i64 x]] W (DC.RetB W (.bool false))) := fun W => by
    have := isZero_c b A n c x W
    rwa [show decide (n = 0) = false by simp [hn]] at this
  have BT : Hid (∀ W, Below W0.heap.size W0 W → Calls Tryz.prog 68 #[.slice A n c] W (fun e w' => e = .returned (.tuple #[.int .i64 k, .int .i64 0]) ∧ W = w')) := fun W hW => Bits_k ((h.below D0).below hW) h1 h2 h0
  have i1 : IntKind.i64.wrap ((k : Int) + x) = k + x := IntWalk.i64_in _ (by omega)
  obtain ⟨T, hT⟩ : ∃ T, (k : Int) + x = T := ⟨_, rfl⟩
  rw [hT] at i1 ht
  rw [← hT] at i1
  have HT := Lib.hid hT
  have KB := Lib.hid KB
  have D0 := Lib.hid D0
  have HW0 := Lib.hid hW0
  have ht' : (k : Int) + x > 1024 := by omega
  clear hW0 h hn h1 h2 h0 hk hx hT ht
  go_enter Tryz.func104, Tryz.ntmps104
  go_wp2_with (first
    | (go_at_call 94; rw [HW0.out]; (with_reducible refine (IZ.out _).mono ?_); rintro e w2 ⟨rfl, hb0⟩; have D := Lib.hid hb0; obtain ⟨⟨p0, p1, p2⟩, R2⟩ := KB.out _ D.out; have t0 := R2.at_ 0 rfl; have t1 := R2.at_ 1 rfl; have f0 := R2.frozen 0; have f1 := R2.frozen 1; have R2 := Lib.hid R2)
    | (go_at_call 68; (with_reducible refine (BT.out _ D.out).mono ?_); rintro e w3 ⟨rfl, rfl⟩))
  exact bodyPost_ret (v := .tuple #[.int .u64 9218868437227405311, .agg #[.bool true, .bool true]]) (by simp [results, Tryz.results104, go_sem, t0, t1]) rfl
    ⟨rfl, below2 (D0.out.trans (D.out.mono D0.out.size)) (by omega) _ _⟩
set_option maxRecDepth 100000 in
theorem toward0_near (b : Bool) (A : Option Addr) (n c : Nat) (x z u : Int) (k : Nat) (w : World) (h : PV w (.slice A n c) 0 z) (hn : n ≠ 0) (h1 : z < 2 ^ k) (h2 : 2 ^ (k - 1) ≤ z) (h0 : 0 < k) (hk : k ≤ 12800) (hx : -20000 ≤ x ∧ x ≤ 20000) (ht : k + x ≤ 1024) (hu : u = max (k + x - 53) (-1074))
    (q : Int) (hf m : Bool) (hq : 0 ≤ q ∧ q < 9007199254740992) (hT : TabD w)
    (SP : ∀ W, Below w.heap.size w W → Calls Tryz.prog 96 #[.slice A n c, .int .i64 (x - u)] W (RetSp W q hf m)) :
    Calls Tryz.prog 104 #[.agg #[.bool b, .slice A n c, .int .i64 x]] w (DC.RetB w (.tuple #[.int .u64 ((u + 1074) * 4503599627370496 + q), .agg #[.bool hf, .bool m]])) := by
  obtain ⟨W0, hW0, D0, KB⟩ := tbox w b A n c x
  have IZ : Hid (∀ W, Calls Tryz.prog 94 #[.agg #[.bool b, .slice A n c, .int .i64 x]] W (DC.RetB W (.bool false))) := fun W => by
    have := isZero_c b A n c x W
    rwa [show decide (n = 0) = false by simp [hn]] at this
  have BT : Hid (∀ W, Below W0.heap.size W0 W → Calls Tryz.prog 68 #[.slice A n c] W (fun e w' => e = .returned (.tuple #[.int .i64 k, .int .i64 0]) ∧ W = w')) := fun W hW => Bits_k ((h.below D0).below hW) h1 h2 h0
  have SP : Hid (∀ W, Below W0.heap.size W0 W → Calls Tryz.prog 96 #[.slice A n c, .int .i64 (x - u)] W (RetSp W q hf m)) := fun W hW => SP W (D0.trans (hW.mono D0.size))
  have WD : Hid (∀ (W : World) A n c, NV W (.slice A n c) q → Calls Tryz.prog 119 #[.slice A n c] W (fun e w' => e = .returned (.int .u64 q) ∧ W = w')) := fun W A n c hv => word_c A n c q W hv (by omega)
  have i1 : IntKind.i64.wrap ((k : Int) + x) = k + x := IntWalk.i64_in _ (by omega)
  have i2 : IntKind.i64.wrap ((k : Int) + x - 52) = k + x - 52 := IntWalk.i64_in _ (by omega)
  have i3 : IntKind.i64.wrap ((k : Int) + x - 52 - 1) = k + x - 52 - 1 := IntWalk.i64_in _ (by omega)
  have i4 : IntKind.i64.wrap (x - u) = x - u := IntWalk.i64_in _ (by omega)
  have hu2 : max ((k : Int) + x - 52 - 1) (-1074) = u := by omega
  have ub : -1074 ≤ u ∧ u ≤ 971 := by omega
  have ht' : ¬ (k : Int) + x > 1024 := by omega
  have KB := Lib.hid KB
  have D0 := Lib.hid D0
  have HW0 := Lib.hid hW0
  obtain ⟨T, hT⟩ : ∃ T, (k : Int) + x = T := ⟨_, rfl⟩
  clear hW0 h hn h1 h2 h0 hk hx hT ht hu
  go_enter Tryz.func104, Tryz.ntmps104
  go_upto_region 9 with (first
    | (go_at_call 94; rw [HW0.out]; (with_reducible refine (IZ.out _).mono ?_); rintro e w2 ⟨rfl, hb0⟩; have D := Lib.hid hb0; obtain ⟨⟨p0, p1, p2⟩, R2⟩ := KB.out _ D.out; have t0 := R2.at_ 0 rfl; have t1 := R2.at_ 1 rfl; have f0 := R2.frozen 0; have f1 := R2.frozen 1; have R2 := Lib.hid R2)
    | (go_at_call 68; (with_reducible refine (BT.out _ D.out).mono ?_); rintro e w3 ⟨rfl, rfl⟩)
    | (go_at_call 96; (with_reducible refine (SP.out _ D.out).mono ?_); rintro e w5 ⟨A5, n5, c5, rfl, hv5, hb5⟩; have D := Lib.hid (D.out.trans (hb5.mono D.out.size))))
  have N8 := Blk.new w5 113 #[.bool hf, .bool m]
  have D6 := D.out.alloc D.out.size (.cells #[.bool hf, .bool m] 113)
  have V6 := hv5.below (al1 w5 (.cells #[.bool hf, .bool m] 113))
  have hne : w5.heap.size ≠ w.heap.size + 1 := by
    obtain ⟨-, R⟩ := KB.out _ D.out
    have := R.lt
    omega
  obtain ⟨w6, hw6⟩ : ∃ w6, w5.alloc (.cells #[.bool hf, .bool m] 113) = w6 := ⟨_, rfl⟩
  obtain ⟨g8, hg8⟩ : ∃ g8, w5.heap.size = g8 := ⟨_, rfl⟩
  rw [hw6] at N8 D6 V6 ⊢
  rw [hg8] at N8 hne ⊢
  have c1 : IntKind.i64.wrap (u + 1074) = u + 1074 := IntWalk.i64_in _ (by omega)
  have c2 : IntKind.u64.wrap (u + 1074) = u + 1074 := IntWalk.u64_in _ (by omega)
  have c3 : IntKind.u64.wrap ((u + 1074) * 4503599627370496) = (u + 1074) * 4503599627370496 := IntWalk.u64_in _ (by omega)
  have c4 : IntKind.u64.wrap ((u + 1074) * 4503599627370496 + q) = (u + 1074) * 4503599627370496 + q := IntWalk.u64_in _ (by omega)
  have D := Lib.hid D6
  clear hw6 hg8 D6 hv5 hb5 t0 t1 f0 f1 R2 p0 p1 p2 hb0
  have N9 := N8
  have V9 : NV w6.drew (.slice A5 n5 c5) q := V6
  obtain ⟨-, R2⟩ := KB.out _ D.out
  have n0 := N9.at_ 0 rfl; have n1 := N9.at_ 1 rfl
  (refine wp_region_L (S := fun w' => w'.cell? ⟨g8, 0, none⟩ = some (.bool hf) ∧ w'.cell? ⟨g8, 1, none⟩ = some (.bool m)) (nl := 1000000) (by kernel_rfl) ?_ (fun hHeld => ?_); focus (exact ⟨n0, n1⟩))
  (refine wpAnyL_take (i := 0) (oi := _) (v := ?_) rfl (by kernel_rfl) (by kernel_rfl) (by kernel_rfl) (fun _ _ _ h => h) (Or.inl ⟨by first | rfl | kernel_rfl, ?hy1⟩) (by assumption) ?rs1; (case hy1 => (intro w hSw; (try dsimp only at hSw); go_simp; first | done | with_reducible rfl)); case' rs1 => (simp only [List.getElem_toArray, List.getElem_cons_zero, List.getElem_cons_succ, Act.put, List.setIfInBounds_toArray, List.set_cons_zero, List.set_cons_succ])); (refine wpAnyL_take (i := 1) (oi := _) (v := ?_) rfl (by kernel_rfl) (by kernel_rfl) (by kernel_rfl) (fun _ _ _ h => h) (Or.inl ⟨by first | rfl | kernel_rfl, ?hy2⟩) (by assumption) ?rs2; (case hy2 => (intro w hSw; (try dsimp only at hSw); go_simp; first | done | with_reducible rfl)); case' rs2 => (simp only [List.getElem_toArray, List.getElem_cons_zero, List.getElem_cons_succ, Act.put, List.setIfInBounds_toArray, List.set_cons_zero, List.set_cons_succ])); (refine wpAnyL_take (i := 2) (oi := _) (v := ?_) rfl (by kernel_rfl) (by kernel_rfl) (by kernel_rfl) (fun _ _ _ h => h) (Or.inl ⟨by first | rfl | kernel_rfl, ?hy3⟩) (by assumption) ?rs3; (case hy3 => (intro w hSw; (try dsimp only at hSw); go_simp; first | done | with_reducible rfl)); case' rs3 => (simp only [List.getElem_toArray, List.getElem_cons_zero, List.getElem_cons_succ, Act.put, List.setIfInBounds_toArray, List.set_cons_zero, List.set_cons_succ])); (refine wpAnyL_take (i := 3) (oi := _) (v := ?_) rfl (by kernel_rfl) (by kernel_rfl) (by kernel_rfl) (fun _ _ _ h => h) (Or.inl ⟨by first | rfl | kernel_rfl, ?hy4⟩) (by assumption) ?rs4; (case hy4 => (intro w hSw; (try dsimp only at hSw); go_simp; first | done | with_reducible rfl)); case' rs4 => (simp only [List.getElem_toArray, List.getElem_cons_zero, List.getElem_cons_succ, Act.put, List.setIfInBounds_toArray, List.set_cons_zero, List.set_cons_succ])); (refine wpAnyL_take (i := 4) (oi := _) (v := ?_) rfl (by kernel_rfl) (by kernel_rfl) (by kernel_rfl) (fun _ _ _ h => h) (Or.inl ⟨by first | rfl | kernel_rfl, ?hy5⟩) (by assumption) ?rs5; (case hy5 => (intro w hSw; (try dsimp only at hSw); go_simp; first | done | with_reducible rfl)); case' rs5 => (simp only [List.getElem_toArray, List.getElem_cons_zero, List.getElem_cons_succ, Act.put, List.setIfInBounds_toArray, List.set_cons_zero, List.set_cons_succ])); (refine wpAnyL_take (i := 7) (oi := _) (v := ?_) rfl (by kernel_rfl) (by kernel_rfl) (by kernel_rfl) (fun _ _ _ h => h) (Or.inl ⟨by first | rfl | kernel_rfl, ?hy6⟩) (by assumption) ?rs6; (case hy6 => (intro w hSw; (try dsimp only at hSw); go_simp; first | done | with_reducible rfl)); case' rs6 => (simp only [List.getElem_toArray, List.getElem_cons_zero, List.getElem_cons_succ, Act.put, List.setIfInBounds_toArray, List.set_cons_zero, List.set_cons_succ])); skip
  (refine wpAnyL_one (i := 5) (o := _) (by kernel_rfl) rfl (fun K hK => ?_); clear hHeld; simp only [List.getElem_toArray, List.getElem_cons_zero, List.getElem_cons_succ]; go_simp; (go_at_call 119; (with_reducible refine (WD.out _ _ _ _ V9).mono ?_); rintro e w7 ⟨rfl, rfl⟩); refine hK.out _ _ ?_ (fun hHeld => ?_); focus (intro _; exact ⟨n0, n1⟩)); have hHeld := hHeld (by decide); clear hK K; (try simp only [Act.put, List.setIfInBounds_toArray, List.set_cons_zero, List.set_cons_succ])
  (refine wpAnyL_take (i := 6) (oi := _) (v := ?_) rfl (by kernel_rfl) (by kernel_rfl) (by kernel_rfl) (fun _ _ _ h => h) (Or.inl ⟨by first | rfl | kernel_rfl, ?hy7⟩) (by assumption) ?rs7; (case hy7 => (intro w hSw; (try dsimp only at hSw); go_simp; first | done | with_reducible rfl)); case' rs7 => (simp only [List.getElem_toArray, List.getElem_cons_zero, List.getElem_cons_succ, Act.put, List.setIfInBounds_toArray, List.set_cons_zero, List.set_cons_succ])); (refine wpAnyL_take (i := 8) (oi := _) (v := ?_) rfl (by kernel_rfl) (by kernel_rfl) (by kernel_rfl) (fun _ _ _ h => h) (Or.inl ⟨by first | rfl | kernel_rfl, ?hy8⟩) (by assumption) ?rs8; (case hy8 => (intro w hSw; (try dsimp only at hSw); go_simp; first | done | with_reducible rfl)); case' rs8 => (simp only [List.getElem_toArray, List.getElem_cons_zero, List.getElem_cons_succ, Act.put, List.setIfInBounds_toArray, List.set_cons_zero, List.set_cons_succ])); skip
  have t0 := R2.at_ 0 rfl; have t1 := R2.at_ 1 rfl; have f0 := R2.frozen 0; have f1 := R2.frozen 1
  (refine wpAnyL_one (i := 9) (o := _) (by kernel_rfl) rfl (fun K hK => ?_); clear hHeld; simp only [List.getElem_toArray, List.getElem_cons_zero, List.getElem_cons_succ]; go_simp; refine hK.out _ _ ?_ (fun hHeld => ?_); focus (intro _; (have NF := (N9.far (p := ⟨w.heap.size + 1, 0, none⟩) hne (.bool hf)).far (p := ⟨w.heap.size + 1, 1, none⟩) hne (.bool m); exact ⟨NF.at_ 0 rfl, NF.at_ 1 rfl⟩))); have hHeld := hHeld (by decide); clear hK K; (try simp only [Act.put, List.setIfInBounds_toArray, List.set_cons_zero, List.set_cons_succ])
  refine wpAnyL_done (by kernel_rfl) ?_ _
  go_wp2
  exact bodyPost_ret (v := .tuple #[.int .u64 ((u + 1074) * 4503599627370496 + q), .agg #[.bool hf, .bool m]]) (by simp [results, Tryz.results104, go_sem, t0, t1]) rfl
    ⟨rfl, (below2 (D0.out.trans (D.out.mono D0.out.size)) (B := w.heap.size + 1) (by omega) (.bool hf) (.bool m)).drew⟩
theorem two_54 : (18014398509481984 : Int) < 4294967296 ^ 400 := Int.lt_of_lt_of_le (show (18014398509481984 : Int) < 4294967296 ^ 2 by decide) (pow_mono (by decide))
/-- what toward0 tells -/
theorem toward0_c (b : Bool) (A : Option Addr) (n c : Nat) (x z : Int) (w : World) (h : PV w (.slice A n c) 0 z) (hx : -20000 ≤ x ∧ x ≤ 20000) (hT : TabD w) :
    ∃ r hf m, Tow (sc z x) r hf m ∧ ∀ W, Below w.heap.size w W → Calls Tryz.prog 104 #[.agg #[.bool b, .slice A n c, .int .i64 x]] W (DC.RetB W (.tuple #[.int .u64 r, .agg #[.bool hf, .bool m]])) := by
  have sm := h.small
  have hlt := sm.2 rfl
  by_cases h0 : z = 0
  · subst h0
    obtain rfl := NV.zero h.nv
    exact ⟨0, false, false, by rw [sc_zero.2 rfl]; exact tow_zero, fun W hW => toward0_z b A c x W⟩
  · have hz : 0 < z := by omega
    have hn : n ≠ 0 := by
      rintro rfl
      obtain ⟨l, l1, l2, l3, l4⟩ := h.nv
      have en := l1.len_.1
      have := List.length_eq_zero_iff.1 en.symm
      rw [this] at l4
      simp [lv] at l4
      omega
    obtain ⟨k, k1, k2, k3, k4⟩ := bits_ex 12800 z hz (by rw [← pow_12800]; exact hlt)
    by_cases ht : k + x ≤ 1024
    · obtain ⟨u, hu⟩ : ∃ u : Int, u = max (k + x - 53) (-1074) := ⟨_, rfl⟩
      obtain ⟨t1, t2⟩ := tow_near (x := x) (by omega) k3 k4 k2 ht hu
      have hp := sh_pos sm.1 (x - u + 1)
      refine ⟨_, _, _, t2, fun W hW => toward0_near b A n c x z u k W (h.below hW) hn k3 k4 k2 k1 hx ht hu _ _ _ (by omega) (hT.below hW) fun W' hW' => ?_⟩
      exact split_c _ z (x - u) W' ((h.below hW).below hW') (by omega) (by omega) (Int.lt_trans t1 two_54) ((hT.below hW).below hW')
    · refine ⟨_, true, true, tow_far (t := 1024) rfl rfl ?_, fun W hW => toward0_far b A n c x z k W (h.below hW) hn k3 k4 k2 k1 hx (by omega)⟩
      have e1 : sc 1 (x + (k - 1 : Nat)) ≤ sc z x := by rw [← sc_two _ x (by omega), sc_le]; exact k4
      exact Int.le_trans (sc1_le (by omega) (by omega)) e1
/-- the rank that is told, and the number's bits -/
def ry (b : Bool) (r : Int) (hf m : Bool) (mode : Int) : Int := if up b (decide (r % 2 = 1)) hf m mode = true then r + 1 else r
def rx (b : Bool) (y : Int) : Int := if b = true then F.neg y else y
theorem number_c (b : Bool) (A : Option Addr) (n c : Nat) (x z r mode : Int) (hf m : Bool) (w : World) (h : PV w (.slice A n c) 0 z) (hx : -20000 ≤ x ∧ x ≤ 20000) (t : Tow (sc z x) r hf m) (hT : TabD w) :
    Calls Tryz.prog 81 #[.agg #[.bool b, .slice A n c, .int .i64 x], .int .i64 mode] w (DC.RetB w (.tuple #[.int .u64 (rx b (ry b r hf m mode)), .bool (hf || m)])) := by
  have D0 : Below w.heap.size w (w.alloc (.cells #[.bool b, .slice A n c, .int .i64 x] 60)) := al1 _ _
  have T0 : Hid (∀ W, Below w.heap.size w W → Calls Tryz.prog 104 #[.agg #[.bool b, .slice A n c, .int .i64 x]] W (DC.RetB W (.tuple #[.int .u64 r, .agg #[.bool hf, .bool m]]))) := by
    obtain ⟨r', h', m', t', hc⟩ := toward0_c b A n c x z w h hx hT
    obtain ⟨rfl, rfl, rfl⟩ := t.unique t'
    exact hc
  have r0 := t.r0
  have r1 := t.r1
  obtain ⟨u, hu⟩ : ∃ u, up b (decide (r % 2 = 1)) hf m mode = u := ⟨_, rfl⟩
  have AW : Hid (∀ W, Calls Tryz.prog 97 #[.agg #[.bool hf, .bool m], .bool b, .bool (decide (r % 2 = 1)), .int .i64 mode] W (DC.RetB W (.bool u))) := fun W => by
    have := away_c hf m b (decide (r % 2 = 1)) mode W
    rwa [hu] at this
  have NG : Hid (∀ (W : World) (y : Int), 0 ≤ y → y ≤ 9223372036854775807 → Calls Tryz.prog 26 #[.int .u64 y] W (fun e w' => e = .returned (.int .u64 (F.neg y)) ∧ W = w')) := fun W y h1 h2 => FloatC.Neg_c y h1 (by omega) W
  unfold ry rx
  rw [hu]
  have BX0 := BX.new w b A n c x
  obtain ⟨W0, hW0⟩ : ∃ W0, w.alloc (.cells #[.bool b, .slice A n c, .int .i64 x] 60) = W0 := ⟨_, rfl⟩
  rw [hW0] at D0 BX0
  have HW0 := Lib.hid hW0
  have KB : Hid (∀ W, Below W0.heap.size W0 W → BX W w.heap.size b A n c x) := fun W hW => BX0.below hW
  have D0 := Lib.hid D0
  have i1 : IntKind.u64.wrap (r + 1) = r + 1 := IntWalk.u64_in _ (by omega)
  have i2 : IntKind.u64.wrap (r % 2) = r % 2 := IntWalk.u64_in _ (by omega)
  have e5 : (r % 2 == 1) = decide (r % 2 = 1) := rfl
  clear hu t h hx hT hW0 BX0
  cases u <;> cases b
  all_goals (
    go_enter Tryz.func81, Tryz.ntmps81
    go_wp2_with (first
      | (go_at_call 104; rw [HW0.out]; (with_reducible refine (T0.out _ D0.out).mono ?_); rintro e w2 ⟨rfl, hb0⟩; have D := Lib.hid (hb0.alloc hb0.size (.cells #[.bool hf, .bool m] 113)); obtain ⟨p0, p1, p2⟩ := KB.out _ D.out)
      | (go_at_call 97; (try rw [e5]); (with_reducible refine (AW.out _).mono ?_); rintro e w3 ⟨rfl, hb3⟩; have D := Lib.hid (D.out.trans (hb3.mono D.out.size)); obtain ⟨p0, p1, p2⟩ := KB.out _ D.out; have N8 := (Blk.new w2 113 #[.bool hf, .bool m]).below hb3 (Blk.new w2 113 #[.bool hf, .bool m]).lt; have n0 := N8.at_ 0 rfl; have n1 := N8.at_ 1 rfl)
      | (go_at_call 26; (with_reducible refine (NG.out _ _ (by omega) (by omega)).mono ?_); rintro e w4 ⟨rfl, rfl⟩))
    clear T0 AW NG KB HW0 N8
    have D9 := Lib.hid (D0.out.trans (D.out.mono D0.out.size))
    cases hf <;> cases m
    all_goals (
      go_region
      go_wp2
      go_ret2
      exact ⟨rfl, D9.out.drew⟩))
end RC
end Go.Proofs.YtejglcpiihkenaaGreatDoor

/-
  Package round: To; a half, twice.
-/
namespace Go.Proofs.YtejglcpiihkenaaGreatDoor
set_option linter.unusedVariables false
set_option linter.unusedSimpArgs false
open Go.RowKit
set_option linter.unusedVariables false
set_option linter.unusedSimpArgs false
namespace RC
open L NC NK DC
open Z (Nz Tz cmpv)
theorem tow_ex {z x : Int} (h0 : 0 ≤ z) (hz : z < 4294967296 ^ 400) (hx : -20000 ≤ x ∧ x ≤ 20000) : ∃ r h m, Tow (sc z x) r h m := by
  by_cases h : z = 0
  · subst h; exact ⟨0, false, false, by rw [sc_zero.2 rfl]; exact tow_zero⟩
  · obtain ⟨k, k1, k2, k3, k4⟩ := bits_ex 12800 z (by omega) (by rw [← pow_12800]; exact hz)
    by_cases ht : k + x ≤ 1024
    · exact ⟨_, _, _, (tow_near (x := x) (by omega) k3 k4 k2 ht rfl).2⟩
    · refine ⟨_, true, true, tow_far (t := 1024) rfl rfl ?_⟩
      have e1 : sc 1 (x + (k - 1 : Nat)) ≤ sc z x := by rw [← sc_two _ x (by omega), sc_le]; exact k4
      exact Int.le_trans (sc1_le (by omega) (by omega)) e1
/-- how far from 0 -/
def A (d : Dy) : Int := sc (d.m.natAbs : Int) d.x
def ng (d : Dy) : Bool := decide (d.m < 0)
theorem abs_small {d : Dy} (h : inb d.m d.x) : (d.m.natAbs : Int) < 4294967296 ^ 400 := by
  obtain ⟨h1, h2, -⟩ := h
  generalize (4294967296 : Int) ^ 400 = c400 at *
  omega
theorem towA {d : Dy} (h : Ok d) : ∃ r hf m, Tow (A d) r hf m ∧ tow (A d) = (r, hf, m) := by
  obtain ⟨r, hf, m, t⟩ := tow_ex (z := (d.m.natAbs : Int)) (x := d.x) (by omega) (abs_small h.2.2) (by have := h.2.2.2.2; omega)
  exact ⟨r, hf, m, t, tow_eq t⟩
/-- what To tells of a number -/
noncomputable def YY (b : Bool) (a : Int) (mode : Int) : Int := ry b (tow a).1 (tow a).2.1 (tow a).2.2 mode
noncomputable def LL (a : Int) : Bool := (tow a).2.1 || (tow a).2.2
noncomputable def TX (d : Dy) (mode : Int) : Int := if d.er = 0 ∧ 0 ≤ mode ∧ mode ≤ 4 then rx (ng d) (YY (ng d) (A d) mode) else 0
noncomputable def TL (d : Dy) (mode : Int) : Bool := if d.er = 0 ∧ 0 ≤ mode ∧ mode ≤ 4 then LL (A d) else false
def TE (d : Dy) (mode : Int) : Int := if d.er ≠ 0 then d.er else if 0 ≤ mode ∧ mode ≤ 4 then 0 else 1
theorem GV.tow {w : World} {b A n c x d} (g : GV w b A n c x d) : ∃ r hf m, Tow (sc (d.m.natAbs : Int) x) r hf m ∧ tow (RC.A d) = (r, hf, m) := by
  obtain ⟨h1, hb, hx, he, hc, hi⟩ := g
  obtain ⟨r, hf, m, t, e⟩ := towA ⟨he, hc, hi⟩
  rw [hx]
  exact ⟨r, hf, m, t, e⟩
theorem To_d (v : Value) (d : Dy) (mode : Int) (w : World) (h : DV w v d) (hT : TabD w) : Calls Tryz.prog 55 #[v, .int .i64 mode] w (DC.RetB w (.tuple #[.int .u64 (TX d mode), .bool (TL d mode), .int .i64 (TE d mode)])) := by
  have C1 : ∀ W, Below w.heap.size w W → Calls Tryz.prog 79 #[v] W (DC.RetB W (.int .i64 d.er)) := fun W hW => Check_d v d W (h.below hW)
  obtain ⟨b1, A1, n1, c1, x1, l1, rfl, -, -, -, -, g1, -⟩ := h
  have X0 := BX.new w b1 A1 n1 c1 x1
  have D0 := al1 w (.cells #[.bool b1, .slice A1 n1 c1, .int .i64 x1] 60)
  obtain ⟨W0, hW0⟩ : ∃ W0, w.alloc (.cells #[.bool b1, .slice A1 n1 c1, .int .i64 x1] 60) = W0 := ⟨_, rfl⟩
  rw [hW0] at X0 D0
  have C1 := Lib.hid (C1 W0 D0)
  have IM : Hid (∀ W, Calls Tryz.prog 80 #[.int .i64 mode] W (fun e w' => e = .returned (.bool (decide (0 ≤ mode ∧ mode ≤ 4))) ∧ W = w')) := fun W => isMode_c mode W
  have KB : Hid (∀ W, Below W0.heap.size W0 W → BX W w.heap.size b1 A1 n1 c1 x1) := fun W hW => X0.below hW
  have HW0 := Lib.hid hW0
  unfold TX TL TE
  obtain ⟨E, hE⟩ : ∃ E, d.er = E := ⟨_, rfl⟩
  rw [hE] at C1 ⊢
  by_cases h0 : E = 0
  · have t1 : (E != 0) = false := by simp [h0]
    by_cases hm : 0 ≤ mode ∧ mode ≤ 4
    · rw [if_pos ⟨h0, hm⟩, if_pos ⟨h0, hm⟩, if_neg (by simpa using h0), if_pos hm]
      rw [decide_eq_true hm] at IM
      have g := g1 (hE.trans h0)
      have hx := g.2.2.1
      have hi := g.2.2.2.2.2
      obtain ⟨r, hf, m, t, et⟩ := GV.tow g
      have NU : Hid (∀ W, Below W0.heap.size W0 W → Calls Tryz.prog 81 #[.agg #[.bool b1, .slice A1 n1 c1, .int .i64 x1], .int .i64 mode] W (DC.RetB W (.tuple #[.int .u64 (rx (ng d) (YY (ng d) (RC.A d) mode)), .bool (LL (RC.A d))]))) := fun W hW => by
        have := number_c b1 A1 n1 c1 x1 _ r mode hf m W ((g.pv.below D0).below hW) (by have := hi.2.2; omega) t ((hT.below D0).below hW)
        unfold YY LL ng
        rw [et, ← g.2.1]
        exact this
      generalize rx (ng d) (YY (ng d) (RC.A d) mode) = X at *
      generalize LL (RC.A d) = Lo at *
      clear h0 hE hW0 g1 hT t et hi g hm hx X0
      have D0 := Lib.hid D0
      go_enter Tryz.func55, Tryz.ntmps55
      go_wp2_with (first
        | (go_at_call 79; rw [HW0.out]; (with_reducible refine (C1.out).mono ?_); rintro e w2 ⟨rfl, hb0⟩; have D := Lib.hid hb0; obtain ⟨p0, p1, p2⟩ := KB.out _ D.out)
        | (go_at_call 80; (with_reducible refine (IM.out _).mono ?_); rintro e w3 ⟨rfl, rfl⟩)
        | (go_at_call 81; (with_reducible refine (NU.out _ D.out).mono ?_); rintro e w4 ⟨rfl, hb4⟩; have D := Lib.hid (D.out.trans (hb4.mono D.out.size))))
      go_ret3
      exact ⟨by simp [t1], D0.out.trans (D.out.mono D0.out.size)⟩
    · rw [if_neg (fun h => hm h.2), if_neg (fun h => hm h.2), if_neg (by simpa using h0), if_neg hm]
      rw [decide_eq_false hm] at IM
      clear h0 hE hW0 g1 hT hm X0
      have D0 := Lib.hid D0
      go_enter Tryz.func55, Tryz.ntmps55
      go_wp2_with (first
        | (go_at_call 79; rw [HW0.out]; (with_reducible refine (C1.out).mono ?_); rintro e w2 ⟨rfl, hb0⟩; have D := Lib.hid hb0; obtain ⟨p0, p1, p2⟩ := KB.out _ D.out)
        | (go_at_call 80; (with_reducible refine (IM.out _).mono ?_); rintro e w3 ⟨rfl, rfl⟩))
      go_ret3
      exact ⟨rfl, D0.out.trans (D.out.mono D0.out.size)⟩
  · rw [if_neg (fun h => h0 h.1), if_neg (fun h => h0 h.1), if_pos h0]
    have t1 : (E != 0) = true := by simp [h0]
    clear h0 hE hW0 g1 hT X0
    have D0 := Lib.hid D0
    go_enter Tryz.func55, Tryz.ntmps55
    go_wp2_with (first
      | (go_at_call 79; rw [HW0.out]; (with_reducible refine (C1.out).mono ?_); rintro e w2 ⟨rfl, hb0⟩; have D := Lib.hid hb0))
    go_ret3
    exact ⟨rfl, D0.out.trans (D.out.mono D0.out.size)⟩
/-- halfway between two -/
def hd : Dy := ⟨0, 9007199254740993, -53⟩
theorem tow_half {x : Int} (hx : x = -53) : Tow (sc 9007199254740993 x) 4607182418800017408 true false := by
  have := tow_near (z := 9007199254740993) (x := x) (b := 54) (by omega) (by decide) (by decide) (by omega) (by omega) (u := -52) (by omega)
  have h := this.2
  rw [show x - -52 + 1 = 0 by omega, show sh 9007199254740993 0 = 9007199254740993 by decide] at h
  exact h
theorem hd_ok : Ok hd := ⟨rfl, .inr (by decide), by
  have : (4294967296 : Int) ^ 2 ≤ 4294967296 ^ 400 := pow_mono (by decide)
  show (9007199254740993 : Int) < 4294967296 ^ 400 ∧ -(4294967296 ^ 400) < (9007199254740993 : Int) ∧ (-10000 : Int) ≤ -53 ∧ (-53 : Int) ≤ 10000
  generalize (4294967296 : Int) ^ 400 = c400 at *
  omega⟩
theorem TX_half : TX hd 0 = 4607182418800017408 ∧ TL hd 0 = true ∧ TE hd 0 = 0 ∧ TX hd 1 = 4607182418800017409 ∧ TE hd 1 = 0 := by
  have t := tow_eq (tow_half (x := hd.x) rfl)
  have e : A hd = sc 9007199254740993 hd.x := rfl
  unfold TX TL TE YY LL
  rw [e, t]
  refine ⟨?_, ?_, rfl, ?_, rfl⟩ <;> rfl
theorem half_dv (W : World) : DV ((W.alloc (.cells #[.int .u32 1, .int .u32 2097152] 108)).alloc (.cells #[.bool false, .slice (some ⟨W.heap.size, 0, none⟩) 2 2, .int .i64 (-53)] 60)) (.agg #[.bool false, .slice (some ⟨W.heap.size, 0, none⟩) 2 2, .int .i64 (-53)]) hd := by
  have g : GV (W.alloc (.cells #[.int .u32 1, .int .u32 2097152] 108)) false (some ⟨W.heap.size, 0, none⟩) 2 2 (-53) hd := by
    refine ⟨⟨[1, 2097152], Row.sl (L := [1, 2097152]) (Blk.new W 108 #[.int .u32 1, .int .u32 2097152]) 2 (by simp), by intro d hd; simp at hd; omega, by intro h; simp, ?_⟩, ?_, rfl, rfl, hd_ok.2.1, hd_ok.2.2⟩
    · simp [lv, hd]
    · simp [hd]
  exact (g.below (al1 _ _)).dv
end RC
end Go.Proofs.YtejglcpiihkenaaGreatDoor

/-
  Rounding, pure: what the laws ask.
-/
namespace Go.Proofs.YtejglcpiihkenaaGreatDoor
set_option linter.unusedVariables false
set_option linter.unusedSimpArgs false
open Go.RowKit
set_option linter.unusedVariables false
set_option linter.unusedSimpArgs false
namespace RC
open L NC NK DC
open Z (Nz Tz cmpv)
theorem A_abs (d : Dy) : (0 ≤ S d → A d = S d ∧ ng d = false) ∧ (S d < 0 → A d = -S d ∧ ng d = true) := by
  have hp := sc_one_pos d.x
  have e1 : S d = d.m * sc 1 d.x := sc_mul1 _ _
  have e2 : A d = (d.m.natAbs : Int) * sc 1 d.x := sc_mul1 _ _
  rw [e1, e2]
  unfold ng
  generalize sc 1 d.x = P at *
  constructor
  · intro h
    have hm : 0 ≤ d.m := by
      rcases Int.lt_or_le d.m 0 with h1 | h1
      · have := Int.mul_neg_of_neg_of_pos h1 hp; omega
      · exact h1
    exact ⟨by rw [show (d.m.natAbs : Int) = d.m by omega], by simp; omega⟩
  · intro h
    have hm : d.m < 0 := by
      rcases Int.lt_or_le d.m 0 with h1 | h1
      · exact h1
      · have := Int.mul_nonneg h1 (Int.le_of_lt hp); omega
    exact ⟨by rw [show (d.m.natAbs : Int) = -d.m by omega, Int.neg_mul], by simp; omega⟩
theorem tow_exact {r : Int} (h0 : 0 ≤ r) (h1 : r ≤ 9218868437227405311) : Tow (U r) r false false := by
  have := U_lt h0 (show r < r + 1 by omega)
  refine ⟨h0, h1, Int.le_refl _, fun _ => this, ?_, ?_⟩
  · symm; rw [decide_eq_false_iff_not]; omega
  · symm; rw [decide_eq_false_iff_not]; intro h; exact h.1 rfl
theorem up_none (b o : Bool) (mode : Int) : up b o false false mode = false := by unfold up; simp
theorem ry_none (b : Bool) (r mode : Int) : ry b r false false mode = r := by unfold ry; rw [up_none]; simp
theorem rx_bd {b : Bool} {y : Int} (h0 : 0 ≤ y) (h1 : y ≤ 9218868437227405312) : 0 ≤ rx b y ∧ rx b y ≤ 18446744073709551615 ∧ F.nn (rx b y) ∧ F.rnk (rx b y) = (if b = true then -y else y) := by
  unfold rx F.nn F.rnk F.neg
  cases b
  · simp; omega
  · simp
    rw [if_pos (by omega)]
    refine ⟨by omega, by omega, by omega, ?_⟩
    rw [if_neg (by omega)]; omega
theorem ry_bd {b : Bool} {a r : Int} {hf m : Bool} (t : Tow a r hf m) (mode : Int) : 0 ≤ ry b r hf m mode ∧ ry b r hf m mode ≤ 9218868437227405312 ∧ r ≤ ry b r hf m mode ∧ ry b r hf m mode ≤ r + 1 := by
  have h0 := t.r0
  have h1 := t.r1
  unfold ry
  split <;> omega
theorem up_mono {b o hf m hf' m' : Bool} {mode : Int} (i1 : hf = true → hf' = true) (i2 : hf = true → m = true → m' = true) (i3 : m = true → hf' = true ∨ m' = true) : up b o hf m mode = true → up b o hf' m' mode = true := by
  unfold up
  by_cases m1 : mode = 1
  · subst m1; cases hf <;> cases m <;> cases hf' <;> cases m' <;> simp_all
  · by_cases m2 : mode = 2
    · subst m2; cases hf <;> cases m <;> cases hf' <;> cases m' <;> simp_all
    · by_cases m3 : mode = 3
      · subst m3; cases hf <;> cases m <;> cases hf' <;> cases m' <;> simp_all
      · by_cases m0 : mode = 0
        · subst m0; cases hf <;> cases m <;> cases hf' <;> cases m' <;> simp_all
        · cases hf <;> cases m <;> cases hf' <;> cases m' <;> simp_all
/-- of what is farther from 0 no less comes -/
theorem ry_mono {b : Bool} {a a' r r' : Int} {hf m hf' m' : Bool} (t : Tow a r hf m) (t' : Tow a' r' hf' m') (h : a ≤ a') (mode : Int) : ry b r hf m mode ≤ ry b r' hf' m' mode := by
  have hle : r ≤ r' := by
    rcases Int.lt_or_le r' r with h1 | h1
    · exfalso
      have c1 := U_le (r := r' + 1) (s := r) (by have := t'.r0; omega) (by omega)
      have c2 := t'.hi (by have := t.r1; omega)
      have c3 := t.lo
      omega
    · exact h1
  have k1 := ry_bd (b := b) t mode
  have k2 := ry_bd (b := b) t' mode
  rcases Int.lt_or_eq_of_le hle with h1 | rfl
  · omega
  · -- the same rank
    have g := U_lt t.r0 (show r < r + 1 by omega)
    have q1 := t.hh
    have q2 := t.hm
    have q3 := t'.hh
    have q4 := t'.hm
    have lo1 := t.lo
    generalize U r = u0 at *
    generalize U (r + 1) = u1 at *
    have i1 : hf = true → hf' = true := by
      rw [q1, q3, decide_eq_true_iff, decide_eq_true_iff]; omega
    have i2 : hf = true → m = true → m' = true := by
      rw [q1, q2, q4, decide_eq_true_iff, decide_eq_true_iff, decide_eq_true_iff]; omega
    have i3 : m = true → hf' = true ∨ m' = true := by
      rw [q2, q3, q4, decide_eq_true_iff, decide_eq_true_iff, decide_eq_true_iff]; omega
    have hup := up_mono (b := b) (o := decide (r % 2 = 1)) (mode := mode) i1 i2 i3
    unfold ry
    by_cases h2 : up b (decide (r % 2 = 1)) hf m mode = true
    · rw [if_pos h2, if_pos (hup h2)]; omega
    · rw [if_neg h2]; split <;> omega
/-- To by Tow -/
theorem TX_of {d : Dy} {mode r : Int} {hf m : Bool} (h : Ok d) (hm : 0 ≤ mode ∧ mode ≤ 4) (t : Tow (A d) r hf m) : TX d mode = rx (ng d) (ry (ng d) r hf m mode) ∧ TL d mode = (hf || m) ∧ TE d mode = 0 := by
  have e := tow_eq t
  unfold TX TL TE YY LL
  rw [if_pos ⟨h.1, hm⟩, if_pos ⟨h.1, hm⟩, if_neg (by simpa using h.1), if_pos hm, e]
  exact ⟨rfl, rfl, rfl⟩
theorem TX_bd (d : Dy) (mode : Int) (h : d.er = 0 → Ok d) : 0 ≤ TX d mode ∧ TX d mode ≤ 18446744073709551615 ∧ F.nn (TX d mode) := by
  by_cases h0 : d.er = 0 ∧ 0 ≤ mode ∧ mode ≤ 4
  · obtain ⟨r, hf, m, t, -⟩ := towA (h h0.1)
    have k := ry_bd (b := ng d) t mode
    rw [(TX_of (h h0.1) h0.2 t).1]
    have := rx_bd (b := ng d) k.1 k.2.1
    exact ⟨this.1, this.2.1, this.2.2.1⟩
  · unfold TX
    rw [if_neg h0]
    exact ⟨by omega, by omega, by unfold F.nn; omega⟩
theorem TE_0 {d : Dy} {mode : Int} (h : TE d mode = 0) : d.er = 0 ∧ 0 ≤ mode ∧ mode ≤ 4 := by
  unfold TE at h
  by_cases h0 : d.er = 0
  · rw [if_neg (by simpa using h0)] at h
    by_cases h1 : 0 ≤ mode ∧ mode ≤ 4
    · exact ⟨h0, h1⟩
    · rw [if_neg h1] at h; cases h
  · rw [if_pos h0] at h; exact absurd h h0
/-- of what is more no less comes -/
theorem order_p {c d : Dy} (hc : Ok c) (hd : Ok d) {mode : Int} (hm : 0 ≤ mode ∧ mode ≤ 4) (h : S c ≤ S d) : F.rnk (TX c mode) ≤ F.rnk (TX d mode) := by
  obtain ⟨r, hf, m, t, -⟩ := towA hc
  obtain ⟨r', hf', m', t', -⟩ := towA hd
  rw [(TX_of hc hm t).1, (TX_of hd hm t').1]
  have k1 := ry_bd (b := ng c) t mode
  have k2 := ry_bd (b := ng d) t' mode
  rw [(rx_bd k1.1 k1.2.1).2.2.2, (rx_bd k2.1 k2.2.1).2.2.2]
  have a1 := A_abs c
  have a2 := A_abs d
  rcases Int.lt_or_le (S c) 0 with s1 | s1
  · have b1 := a1.2 s1
    rcases Int.lt_or_le (S d) 0 with s2 | s2
    · have b2 := a2.2 s2
      rw [b1.2, b2.2]
      have := ry_mono (b := true) t' t (by omega) mode
      simp; exact this
    · have b2 := a2.1 s2
      rw [b1.2] at k1 ⊢
      rw [b2.2] at k2 ⊢
      simp; omega
  · have b1 := a1.1 s1
    have b2 := a2.1 (by omega)
    rw [b1.2, b2.2]
    have := ry_mono (b := false) t t' (by omega) mode
    simp; exact this
/-- down, up, and the others -/
theorem sides_p {d : Dy} (h : Ok d) {mode : Int} (hm : 0 ≤ mode ∧ mode ≤ 4) : TL d 2 = TL d mode ∧ TL d 1 = TL d mode ∧ (TX d mode = TX d 2 ∨ TX d mode = TX d 1) ∧ (TL d mode = false → TX d 2 = TX d 1) ∧
    (TL d mode = true → F.rnk (TX d 1) = F.rnk (TX d 2) + 1) ∧ (mode = 3 → TX d mode = if ng d = true then TX d 1 else TX d 2) := by
  obtain ⟨r, hf, m, t, -⟩ := towA h
  obtain ⟨x1, l1, -⟩ := TX_of h hm t
  obtain ⟨x2, l2, -⟩ := TX_of h (mode := 2) (by omega) t
  obtain ⟨x3, l3, -⟩ := TX_of h (mode := 1) (by omega) t
  rw [x1, x2, x3, l1, l2, l3]
  have k2 := ry_bd (b := ng d) t 2
  have k3 := ry_bd (b := ng d) t 1
  rw [(rx_bd k2.1 k2.2.1).2.2.2, (rx_bd k3.1 k3.2.1).2.2.2]
  clear x1 x2 x3 l1 l2 l3 k2 k3
  refine ⟨rfl, rfl, ?_, ?_, ?_, ?_⟩
  · have k := ry_bd (b := ng d) t mode
    by_cases hl : hf = false ∧ m = false
    · obtain ⟨rfl, rfl⟩ := hl
      rw [ry_none, ry_none]; exact .inl rfl
    · have e2 : ry (ng d) r hf m 2 = if ng d = true then r + 1 else r := by unfold ry up; rw [if_neg hl]; simp
      have e1 : ry (ng d) r hf m 1 = if ng d = true then r else r + 1 := by unfold ry up; rw [if_neg hl]; cases ng d <;> simp
      rw [e1, e2]
      have : ry (ng d) r hf m mode = r ∨ ry (ng d) r hf m mode = r + 1 := by omega
      rcases this with h | h <;> rw [h] <;> cases ng d <;> simp
  · intro hl; cases ng d <;> cases hf <;> cases m <;> simp_all [ry, up]
  · intro hl; cases ng d <;> cases hf <;> cases m <;> simp_all [ry, up] <;> omega
  · rintro rfl; cases ng d <;> cases hf <;> cases m <;> simp [ry, up]
/-- turned -/
def tm (mode : Int) : Int := if mode = 1 then 2 else if mode = 2 then 1 else mode
theorem turned_p {d : Dy} (h : Ok d) (h0 : d.m ≠ 0) {mode : Int} (hm : 0 ≤ mode ∧ mode ≤ 4) : Ok (neg d) ∧ TE (neg d) (tm mode) = 0 ∧ TX (neg d) (tm mode) = F.neg (TX d mode) ∧ TL (neg d) (tm mode) = TL d mode := by
  have hn : Ok (neg d) := by
    obtain ⟨a, b, c⟩ := h
    refine ⟨a, ?_, ?_⟩
    · unfold can at *
      show (-d.m = 0 ∧ d.x = 0) ∨ -d.m % 2 = 1
      omega
    · unfold inb at *
      show -d.m < _ ∧ _ < -d.m ∧ -10000 ≤ d.x ∧ d.x ≤ 10000
      generalize (4294967296 : Int) ^ 400 = c400 at *
      omega
  obtain ⟨r, hf, m, t, -⟩ := towA h
  have e : A (neg d) = A d := by
    unfold A
    show sc ((-d.m).natAbs : Int) d.x = sc (d.m.natAbs : Int) d.x
    rw [Int.natAbs_neg]
  have hm' : 0 ≤ tm mode ∧ tm mode ≤ 4 := by unfold tm; split; omega; split <;> omega
  have eg : ng (neg d) = !ng d := by
    unfold ng
    show decide (-d.m < 0) = !decide (d.m < 0)
    by_cases h1 : d.m < 0 <;> simp [h1] <;> omega
  obtain ⟨x1, l1, -⟩ := TX_of h hm t
  obtain ⟨x2, l2, e2⟩ := TX_of hn hm' (by rw [e]; exact t)
  have k := ry_bd (b := ng d) t mode
  refine ⟨hn, e2, ?_, by rw [l1, l2]⟩
  rw [x1, x2, eg]
  have eu : up (!ng d) (decide (r % 2 = 1)) hf m (tm mode) = up (ng d) (decide (r % 2 = 1)) hf m mode := by
    generalize decide (r % 2 = 1) = o
    generalize ng d = b
    unfold up tm
    by_cases m1 : mode = 1
    · subst m1; cases b <;> simp
    · by_cases m2 : mode = 2
      · subst m2; cases b <;> simp
      · simp [m1, m2]
  have ey : ry (!ng d) r hf m (tm mode) = ry (ng d) r hf m mode := by unfold ry; rw [eu]
  rw [ey]
  generalize ry (ng d) r hf m mode = y at *
  unfold rx
  cases ng d
  · simp
  · simp
    exact (F.neg_neg y (by omega) (by omega)).symm
/-- what is a number -/
theorem of_p {x : Int} (h0 : 0 ≤ x) (h1 : x ≤ 18446744073709551615) (h2 : F.exq x ≠ 2047) : (OfD x).e = 0 ∧ Ok (OfD x).d ∧ S (OfD x).d = sgm (F.sgn x) (U (x % 9223372036854775808)) ∧ x % 9223372036854775808 ≤ 9218868437227405311 := by
  have hb := F.exq_bd x
  have hf := F.fra_bd x
  have hx := F.mk_parts x h0 h1
  have hr : x % 9223372036854775808 = F.exq x * 4503599627370496 + F.fra x := by unfold F.exq F.fra; omega
  have mb : 0 ≤ mant x ∧ mant x < 9007199254740992 := by unfold mant; split <;> omega
  obtain ⟨k, hk⟩ : ∃ k : Nat, F.ulp x + 1074 = k := ⟨(F.ulp x + 1074).toNat, by unfold F.ulp; split <;> omega⟩
  have hkq : x % 9223372036854775808 = k * 4503599627370496 + mant x ∧ (k = 0 ∨ 4503599627370496 ≤ mant x) := by
    rw [hr]
    unfold F.ulp at hk
    unfold mant
    by_cases h : 0 < F.exq x
    · rw [if_pos h]; rw [if_pos (by omega)] at hk; exact ⟨by omega, by omega⟩
    · rw [if_neg h]; rw [if_neg (by omega)] at hk; exact ⟨by omega, by omega⟩
  have ub : -1074 ≤ F.ulp x ∧ F.ulp x ≤ 971 := by unfold F.ulp; split <;> omega
  have eU := (U_of mb.1 mb.2 hkq.2).1
  rw [← hkq.1, show (k : Int) - 1074 = F.ulp x by omega] at eU
  have e1 : OfD x = fin (sgm (F.sgn x) (mant x)) (F.ulp x) := by unfold OfD; rw [if_neg h2]
  have e0 : (fin (sgm (F.sgn x) (mant x)) (F.ulp x)).e = 0 := by
    by_cases hz : mant x = 0
    · rw [hz, show sgm (F.sgn x) 0 = 0 by cases F.sgn x <;> rfl, fin_zero]
    · obtain ⟨o, o1, o2⟩ := tz_spec (m := mant x) hz
      have os := odd_small o1 (by omega)
      have ht : tz (mant x) < 53 := by
        have h3 := Int.mul_le_mul_of_nonneg_right (show (1 : Int) ≤ o by omega) (Int.le_of_lt (two_pos' (tz (mant x))))
        exact two_lt (b := 53) (Int.lt_of_le_of_lt (by omega) mb.2)
      have hi : inb (sgm (F.sgn x) o) (F.ulp x + tz (mant x)) := by
        have : (4294967296 : Int) ^ 2 ≤ 4294967296 ^ 400 := pow_mono (by decide)
        unfold inb sgm
        generalize (4294967296 : Int) ^ 400 = c400 at *
        cases F.sgn x <;> simp <;> omega
      rw [fin_sg o1 o2, if_pos hi]
  have es := fin_sc (show -60000 ≤ F.ulp x by omega) e0
  rw [e1]
  refine ⟨e0, fin_ok _ _, ?_, by rw [hr]; omega⟩
  unfold S
  rw [es, eU]
  unfold sgm
  cases F.sgn x
  · simp; exact sc_mul1 _ _
  · simp; rw [sc_neg, sc_mul1]
theorem same_p {x mode : Int} (h0 : 0 ≤ x) (h1 : x ≤ 18446744073709551615) (h2 : F.exq x ≠ 2047) (hm : 0 ≤ mode ∧ mode ≤ 4) :
    TE (OfD x).d mode = 0 ∧ TL (OfD x).d mode = false ∧ ((TX (OfD x).d mode == x) = true ∨ ((TX (OfD x).d mode == x) = false ∧ x = 9223372036854775808 ∧ TX (OfD x).d mode = 0)) := by
  obtain ⟨e, hok, hS, hr⟩ := of_p h0 h1 h2
  have hr0 : 0 ≤ x % 9223372036854775808 := by omega
  have hU := U_pos hr0
  have aa := A_abs (OfD x).d
  have eA : A (OfD x).d = U (x % 9223372036854775808) := by
    rw [hS] at aa
    unfold sgm at aa
    cases hs : F.sgn x <;> rw [hs] at aa <;> simp at aa
    · exact (aa.1 hU).1
    · rcases Int.lt_or_eq_of_le hU with h | h
      · exact (aa.2 h).1
      · have := (aa.1 (by omega)).1; omega
  have t := tow_exact hr0 hr
  rw [← eA] at t
  obtain ⟨x1, l1, e1⟩ := TX_of hok hm t
  refine ⟨e1, by rw [l1]; rfl, ?_⟩
  rw [x1, ry_none]
  by_cases hz : x % 9223372036854775808 = 0
  · have hg : ng (OfD x).d = false := by
      rw [hz, U_zero] at hS
      exact (aa.1 (by rw [hS]; cases F.sgn x <;> simp [sgm])).2
    rw [hg, hz]
    unfold rx
    simp
    omega
  · have hUp : 0 < U (x % 9223372036854775808) := by
      have := U_lt (r := 0) (s := x % 9223372036854775808) (by omega) (by omega)
      rwa [U_zero] at this
    left
    rw [beq_iff_eq]
    unfold rx
    cases hs : F.sgn x
    · have hg := (aa.1 (by rw [hS, hs]; unfold sgm; simp; omega)).2
      rw [hg]
      have := (F.sgn_iff' x).1 hs
      simp; omega
    · have hg := (aa.2 (by rw [hS, hs]; unfold sgm; simp; omega)).2
      rw [hg]
      have := (F.sgn_iff x).1 hs
      unfold F.neg
      simp; omega
end RC
end Go.Proofs.YtejglcpiihkenaaGreatDoor

/-
  Package sum, pure: sums of lists; what has no value; zeros.
-/
namespace Go.Proofs.YtejglcpiihkenaaGreatDoor
set_option linter.unusedVariables false
set_option linter.unusedSimpArgs false
open Go.RowKit
set_option linter.unusedVariables false
set_option linter.unusedSimpArgs false
namespace SC
open L NC NK DC RC
/-- what fits easily -/
structure Fit (d : Dy) (k : Int) : Prop where
  ok : Ok d
  x : -1074 ≤ d.x
  hi : S d ≤ k * sc 1 1024
  lo : -(k * sc 1 1024) ≤ S d
theorem two_lt' {a b : Nat} (h : a < b) : (2 : Int) ^ a < 2 ^ b := by
  obtain ⟨k, rfl⟩ : ∃ k, b = a + 1 + k := ⟨b - a - 1, by omega⟩
  rw [Int.pow_add, Int.pow_succ]
  have h1 := two_pos' a
  have h2 := two_pos' k
  have h3 := Int.mul_le_mul_of_nonneg_left (show (1 : Int) ≤ 2 ^ k by omega) (show (0 : Int) ≤ 2 ^ a * 2 by omega)
  omega
theorem big_small {n : Nat} (h : n = 2106) : (2 : Int) ^ n < 4294967296 ^ 400 := by
  have e : (4294967296 : Int) = 2 ^ 32 := by decide
  rw [e, ← Int.pow_mul]
  exact two_lt' (by omega)
theorem inb_fit {o x t : Int} (ht : t = 1032) (ho : o ≠ 0) (hx : -1074 ≤ x) (h1 : sc o x ≤ sc 1 t) (h2 : -(sc 1 t) ≤ sc o x) : inb o x := by
  have hp := sc_one_pos x
  have e1 : sc o x = o * sc 1 x := sc_mul1 _ _
  have hxt : x ≤ t := by
    rcases Int.lt_or_le t x with h | h
    · exfalso
      have h3 : sc 1 t < sc 1 x := by
        have h4 := sc1_le (x := t + 1) (y := x) (by omega) (by omega)
        have h5 := sc_shift 1 t 1 (by omega)
        rw [show (1 : Int) * 2 ^ 1 = 2 by decide, show t + ((1 : Nat) : Int) = t + 1 by omega, sc_mul1] at h5
        have := sc_one_pos t
        omega
      rw [e1] at h1 h2
      generalize sc 1 x = E at *
      generalize sc 1 t = B at *
      rcases Int.lt_or_le o 0 with h | h
      · have := Int.mul_le_mul_of_nonneg_right (show o ≤ -1 by omega) (Int.le_of_lt hp)
        omega
      · have := Int.mul_le_mul_of_nonneg_right (show 1 ≤ o by omega) (Int.le_of_lt hp)
        omega
    · exact h
  obtain ⟨n, hn⟩ : ∃ n : Nat, n = 2106 := ⟨_, rfl⟩
  have e2 : sc 1 t = 2 ^ n * sc 1 (-1074) := by
    rw [← sc_mul1, sc_two n _ (by omega)]
    congr 1; omega
  have e3 := sc1_le (x := -1074) (y := x) (by omega) (by omega)
  have hq := sc_one_pos (-1074)
  have hb := big_small hn
  rw [e1, e2] at h1 h2
  have hP := two_pos' n
  have hx2 : x ≤ 1032 := by omega
  clear e2 hn ht
  have l1 : o ≤ 2 ^ n := by
    rcases Int.lt_or_le (2 ^ n) o with h | h
    · exfalso
      have a := Int.mul_le_mul_of_nonneg_right (show 2 ^ n + 1 ≤ o by omega) (Int.le_of_lt hp)
      have b := Int.mul_le_mul_of_nonneg_left e3 (Int.le_of_lt hP)
      rw [Int.add_mul, Int.one_mul] at a
      omega
    · exact h
  have l2 : -(2 ^ n) ≤ o := by
    rcases Int.lt_or_le o (-(2 ^ n)) with h | h
    · exfalso
      have a := Int.mul_le_mul_of_nonneg_right (show o ≤ -(2 ^ n) - 1 by omega) (Int.le_of_lt hp)
      have b := Int.mul_le_mul_of_nonneg_left e3 (Int.le_of_lt hP)
      rw [Int.sub_mul, Int.one_mul, Int.neg_mul] at a
      omega
    · exact h
  unfold inb
  generalize (4294967296 : Int) ^ 400 = c400 at *
  omega
theorem fin_x {m x : Int} (h : (fin m x).e = 0) : (fin m x).d.m = 0 ∨ x ≤ (fin m x).d.x := by
  by_cases h0 : m = 0
  · subst h0; rw [fin_zero]; exact .inl rfl
  · obtain ⟨o, h1, h2⟩ := tz_spec h0
    rw [fin_of h1 h2] at h ⊢
    by_cases hi : inb o (x + tz m)
    · rw [if_pos hi]; right; show x ≤ x + _; omega
    · rw [if_neg hi] at h; cases h
theorem fin_x' {m x : Int} (h : (fin m x).e = 0) (hx : -1074 ≤ x) : -1074 ≤ (fin m x).d.x := by
  rcases fin_x h with h1 | h1
  · have := (fin_ok m x).2.1
    unfold can at this
    omega
  · omega
theorem fit_lim {j t : Int} (hj : j ≤ 256) (ht : t = 1032) : j * sc 1 1024 ≤ sc 1 t := by
  have h := sc_two 8 1024 (by omega)
  have h' : sc 1 t = 256 * sc 1 1024 := by
    rw [← sc_mul1, show (256 : Int) = 2 ^ 8 by decide, h, ht]; rfl
  rw [h']
  exact Int.mul_le_mul_of_nonneg_right hj (Int.le_of_lt (sc_one_pos _))
theorem fin_fit {m x k : Int} (hx : -1074 ≤ x) (hk : k ≤ 256) (h1 : sc m x ≤ k * sc 1 1024) (h2 : -(k * sc 1 1024) ≤ sc m x) : (fin m x).e = 0 := by
  obtain ⟨t, ht⟩ : ∃ t : Int, t = 1032 := ⟨_, rfl⟩
  have hl := fit_lim hk ht
  by_cases h0 : m = 0
  · subst h0; rw [fin_zero]
  · obtain ⟨o, o1, o2⟩ := tz_spec h0
    rw [fin_of o1 o2]
    have e := sc_shift o x (tz m) (by omega)
    rw [← o1] at e
    rw [e] at h1 h2
    have hi := inb_fit (o := o) (x := x + tz m) ht (odd_ne o2) (by omega) (by omega) (by omega)
    rw [if_pos hi]
theorem add_fit {a b : Dy} {j k : Int} (ha : Fit a j) (hb : Fit b k) (hk : j + k ≤ 256) : (DC.Add a b).e = 0 ∧ Fit (DC.Add a b).d (j + k) ∧ S (DC.Add a b).d = S a + S b := by
  have he : ee a.er b.er = 0 := ee0.2 ⟨ha.ok.1, hb.ok.1⟩
  have x1 := ha.x
  have x2 := hb.x
  have h1 := ha.hi
  have h2 := ha.lo
  have h3 := hb.hi
  have h4 := hb.lo
  have e1 : sc (lv2 a b + lv2 b a) (min a.x b.x) = S a + S b := by
    rw [sc_add, sc_lv2 a b (by omega)]
    have := sc_lv2 b a (by omega)
    rw [Int.min_comm b.x a.x] at this
    rw [this]; rfl
  have e2 : (j + k) * sc 1 1024 = j * sc 1 1024 + k * sc 1 1024 := Int.add_mul _ _ _
  have e0 : (DC.Add a b).e = 0 := by
    unfold DC.Add
    rw [if_neg (by simpa using he)]
    unfold sum
    exact fin_fit (k := j + k) (by omega) hk (by rw [e1, e2]; omega) (by rw [e1, e2]; omega)
  have hS := (add_ok e0 (fun _ => ha.ok) (fun _ => hb.ok)).2.2
  refine ⟨e0, ⟨add_good a b, ?_, by rw [hS, e2]; omega, by rw [hS, e2]; omega⟩, hS⟩
  unfold DC.Add at e0 ⊢
  rw [if_neg (by simpa using he)] at e0 ⊢
  unfold sum at e0 ⊢
  exact fin_x' e0 (by omega)
theorem fit_zero : Fit dz 0 := by
  have e : S dz = 0 := sc_zero.2 rfl
  refine ⟨ok_dz, by decide, ?_, ?_⟩ <;> rw [e] <;> omega
/-- finite -/
def fi (x : Int) : Prop := 0 ≤ x ∧ x ≤ 18446744073709551615 ∧ F.exq x ≠ 2047
/-- the value -/
def val (x : Int) : Int := S (OfD x).d
theorem U_max {M : Int} (hM : M = 9218868437227405311) : U M ≤ sc 1 1024 := by
  obtain ⟨k, hk⟩ : ∃ k : Nat, k = 2045 := ⟨_, rfl⟩
  obtain ⟨u, hu⟩ : ∃ u : Int, u = (k : Int) - 1074 := ⟨_, rfl⟩
  have hU := (U_of (k := k) (q := 9007199254740991) (by omega) (by omega) (by omega))
  rw [← hu, show (k : Int) * 4503599627370496 + 9007199254740991 = M by omega] at hU
  have hp := sc_one_pos u
  have e : sc 1 1024 = 9007199254740992 * sc 1 u := by
    have := sc_shift 1 u 53 (by omega)
    rw [show u + ((53 : Nat) : Int) = 1024 by omega, show (1 : Int) * 2 ^ 53 = 9007199254740992 by decide, sc_mul1] at this
    exact this.symm
  rw [hU.1, e]
  omega
theorem val_eq {x : Int} (h : fi x) : val x = sgm (F.sgn x) (U (x % 9223372036854775808)) := (of_p h.1 h.2.1 h.2.2).2.2.1
theorem of_fit {x : Int} (h : fi x) : (OfD x).e = 0 ∧ Fit (OfD x).d 1 := by
  obtain ⟨h1, h2, h3, h4⟩ := of_p h.1 h.2.1 h.2.2
  have u0 := U_pos (r := x % 9223372036854775808) (by omega)
  have u1 := U_le (r := x % 9223372036854775808) (s := 9218868437227405311) (by omega) h4
  have u2 := Int.le_trans u1 (U_max rfl)
  refine ⟨h1, h2, ?_, ?_, ?_⟩
  · unfold OfD at h1 ⊢
    rw [if_neg h.2.2] at h1 ⊢
    exact fin_x' h1 (by unfold F.ulp; split <;> omega)
  · rw [h3]; unfold sgm; split <;> omega
  · rw [h3]; unfold sgm; split <;> omega
/-- the sum of a list, by Dyads and by values -/
def tot : List Int → Dy → Dy
  | [], d => d
  | x :: t, d => tot t (DC.Add d (OfD x).d).d
def vs : List Int → Int
  | [] => 0
  | x :: t => val x + vs t
theorem vs_append (a b : List Int) : vs (a ++ b) = vs a + vs b := by
  induction a with
  | nil => simp [vs]
  | cons x t ih => simp [vs, ih]; omega
theorem vs_reverse (a : List Int) : vs a.reverse = vs a := by
  induction a with
  | nil => rfl
  | cons x t ih => rw [List.reverse_cons, vs_append, ih]; simp [vs]; omega
theorem tot_fit : ∀ (L : List Int) (d : Dy) (k : Int), (∀ x ∈ L, fi x) → Fit d k → k + L.length ≤ 256 → Fit (tot L d) (k + L.length) ∧ S (tot L d) = S d + vs L := by
  intro L
  induction L with
  | nil => intro d k _ h _; refine ⟨by simpa [tot] using h, by simp [tot, vs]⟩
  | cons x t ih =>
    intro d k hL h hk
    rw [List.length_cons] at hk
    have hx := of_fit (hL x (by simp))
    obtain ⟨-, a2, a3⟩ := add_fit h hx.2 (by omega)
    obtain ⟨b1, b2⟩ := ih (DC.Add d (OfD x).d).d (k + 1) (fun y hy => hL y (by simp [hy])) a2 (by omega)
    refine ⟨?_, ?_⟩
    · rw [List.length_cons, show k + ((t.length + 1 : Nat) : Int) = k + 1 + t.length by omega]; exact b1
    · show S (tot t (DC.Add d (OfD x).d).d) = S d + (val x + vs t)
      rw [b2, a3]
      unfold val
      omega
/-- what has no value -/
def wv : List Int → Int → Bool → Int × Bool
  | [], s, f => (s, f)
  | x :: t, s, f => if F.cls x = 5 then (9221120237041090560, true) else if F.cls x = 4 then (if f = true ∧ x ≠ s then (9221120237041090560, true) else wv t x true) else wv t s f
def hN (L : List Int) : Bool := L.any fun x => F.cls x == 5
def hP (L : List Int) : Bool := L.any fun x => x == 9218868437227405312
def hM (L : List Int) : Bool := L.any fun x => x == 18442240474082181120
def WV (n p m : Bool) : Int × Bool := if n || (p && m) then (9221120237041090560, true) else if p then (9218868437227405312, true) else if m then (18442240474082181120, true) else (0, false)
theorem cls_inf {x : Int} (h0 : 0 ≤ x) (h1 : x ≤ 18446744073709551615) : F.cls x = 4 ↔ x = 9218868437227405312 ∨ x = 18442240474082181120 := by
  unfold F.cls F.exq F.fra
  constructor
  · intro h; repeat (first | omega | split at h)
  · rintro (rfl | rfl) <;> decide
theorem cls_fi {x : Int} : F.cls x ≠ 5 ∧ F.cls x ≠ 4 ↔ F.exq x ≠ 2047 := by
  have := F.exq_bd x
  unfold F.cls
  constructor
  · rintro ⟨h1, h2⟩ h
    rw [if_neg (by omega), if_neg (by omega)] at h1 h2
    by_cases h3 : F.fra x = 0
    · rw [if_pos h3] at h2; exact h2 rfl
    · rw [if_neg h3] at h1; exact h1 rfl
  · intro h
    by_cases h0 : F.exq x = 0
    · rw [if_pos h0]; split <;> omega
    · rw [if_neg h0, if_pos (by omega)]; omega
theorem wv_spec : ∀ (L : List Int) (s : Int) (f : Bool), (∀ x ∈ L, 0 ≤ x ∧ x ≤ 18446744073709551615) → ((f = false ∧ s = 0) ∨ (f = true ∧ (s = 9218868437227405312 ∨ s = 18442240474082181120))) →
    wv L s f = WV (hN L) (hP L || (s == 9218868437227405312)) (hM L || (s == 18442240474082181120)) := by
  intro L
  induction L with
  | nil =>
    intro s f _ h
    rcases h with ⟨rfl, rfl⟩ | ⟨rfl, rfl | rfl⟩ <;> simp [wv, WV, hN, hP, hM]
  | cons x t ih =>
    intro s f hL h
    have hx := hL x (by simp)
    have ht : ∀ y ∈ t, 0 ≤ y ∧ y ≤ 18446744073709551615 := fun y hy => hL y (by simp [hy])
    have ci := cls_inf hx.1 hx.2
    unfold wv
    by_cases h5 : F.cls x = 5
    · rw [if_pos h5]
      have : hN (x :: t) = true := by simp [hN, h5]
      rw [this]; simp [WV]
    · rw [if_neg h5]
      have e1 : hN (x :: t) = hN t := by simp [hN, h5]
      rw [e1]
      by_cases h4 : F.cls x = 4
      · rw [if_pos h4]
        rcases ci.1 h4 with rfl | rfl
        · have e2 : hP (9218868437227405312 :: t) = true := by simp [hP]
          have e3 : hM (9218868437227405312 :: t) = hM t := by simp [hM]
          rw [e2, e3]
          rcases h with ⟨rfl, rfl⟩ | ⟨rfl, rfl | rfl⟩
          · rw [if_neg (by simp), ih _ _ ht (.inr ⟨rfl, .inl rfl⟩)]; simp
          · rw [if_neg (by simp), ih _ _ ht (.inr ⟨rfl, .inl rfl⟩)]; simp
          · rw [if_pos (by simp)]; simp [WV]
        · have e2 : hP (18442240474082181120 :: t) = hP t := by simp [hP]
          have e3 : hM (18442240474082181120 :: t) = true := by simp [hM]
          rw [e2, e3]
          rcases h with ⟨rfl, rfl⟩ | ⟨rfl, rfl | rfl⟩
          · rw [if_neg (by simp), ih _ _ ht (.inr ⟨rfl, .inr rfl⟩)]; simp
          · rw [if_pos (by simp)]; simp [WV]
          · rw [if_neg (by simp), ih _ _ ht (.inr ⟨rfl, .inr rfl⟩)]; simp
      · rw [if_neg h4]
        have e2 : hP (x :: t) = hP t := by
          have : x ≠ 9218868437227405312 := fun h => h4 (ci.2 (.inl h))
          simp [hP, this]
        have e3 : hM (x :: t) = hM t := by
          have : x ≠ 18442240474082181120 := fun h => h4 (ci.2 (.inr h))
          simp [hM, this]
        rw [e2, e3]
        exact ih _ _ ht h
def u64s (L : List Int) : Prop := ∀ x ∈ L, 0 ≤ x ∧ x ≤ 18446744073709551615
theorem wv_eq {L : List Int} (h : u64s L) : wv L 0 false = WV (hN L) (hP L) (hM L) := by
  have := wv_spec L 0 false h (.inl ⟨rfl, rfl⟩)
  simpa using this
theorem wv_fin {L : List Int} (h : u64s L) : (wv L 0 false).2 = false ↔ ∀ x ∈ L, fi x := by
  rw [wv_eq h]
  have e : (WV (hN L) (hP L) (hM L)).2 = false ↔ hN L = false ∧ hP L = false ∧ hM L = false := by
    unfold WV; cases hN L <;> cases hP L <;> cases hM L <;> simp
  rw [e]
  unfold hN hP hM
  rw [List.any_eq_false, List.any_eq_false, List.any_eq_false]
  constructor
  · rintro ⟨h1, h2, h3⟩ x hx
    have hb := h x hx
    refine ⟨hb.1, hb.2, cls_fi.1 ⟨by simpa using h1 x hx, fun h4 => ?_⟩⟩
    rcases (cls_inf hb.1 hb.2).1 h4 with h5 | h5
    · exact h2 x hx (by simpa using h5)
    · exact h3 x hx (by simpa using h5)
  · intro hf
    refine ⟨fun x hx => ?_, fun x hx => ?_, fun x hx => ?_⟩
    · have := cls_fi.2 (hf x hx).2.2; simpa using this.1
    · have hb := h x hx
      have := cls_fi.2 (hf x hx).2.2
      intro h5
      exact this.2 ((cls_inf hb.1 hb.2).2 (.inl (by simpa using h5)))
    · have hb := h x hx
      have := cls_fi.2 (hf x hx).2.2
      intro h5
      exact this.2 ((cls_inf hb.1 hb.2).2 (.inr (by simpa using h5)))
/-- zeros -/
def sm (L : List Int) : Bool := L.all fun x => x == L.headD 0
def ZR (L : List Int) (mode : Int) : Int := if L = [] then 0 else if sm L = true then L.headD 0 else if mode = 2 then 9223372036854775808 else 0
/-- what All tells -/
noncomputable def AT (L : List Int) (mode : Int) : Int × Bool × Int :=
  if ¬ (0 ≤ mode ∧ mode ≤ 4) then (0, false, 1)
  else if 200 < L.length then (0, false, 2)
  else if (wv L 0 false).2 = true then ((wv L 0 false).1, false, 0)
  else if (tot L dz).m = 0 then (ZR L mode, false, 0)
  else (TX (tot L dz) mode, TL (tot L dz) mode, 0)
theorem tot_ok {L : List Int} (h : ∀ x ∈ L, fi x) (hl : ¬ 200 < L.length) : Ok (tot L dz) ∧ S (tot L dz) = vs L := by
  have := tot_fit L dz 0 h fit_zero (by omega)
  refine ⟨this.1.ok, ?_⟩
  rw [this.2, show S dz = 0 from sc_zero.2 rfl]; omega
theorem S_m {d : Dy} : d.m = 0 ↔ S d = 0 := sc_zero.symm
end SC
end Go.Proofs.YtejglcpiihkenaaGreatDoor

/-
  Package sum, pure: what the laws ask.
-/
namespace Go.Proofs.YtejglcpiihkenaaGreatDoor
set_option linter.unusedVariables false
set_option linter.unusedSimpArgs false
open Go.RowKit
set_option linter.unusedVariables false
set_option linter.unusedSimpArgs false
namespace SC
open L NC NK DC RC
theorem AT_congr {L L' : List Int} {mode : Int} (h : u64s L) (h' : u64s L') (hl : L.length = L'.length) (hn : hN L = hN L') (hp : hP L = hP L') (hm : hM L = hM L') (hv : vs L = vs L') (hz : ZR L mode = ZR L' mode) : AT L mode = AT L' mode := by
  have e : wv L 0 false = wv L' 0 false := by rw [wv_eq h, wv_eq h', hn, hp, hm]
  unfold AT
  rw [e, ← hl, hz]
  by_cases h1 : 200 < L.length
  · rw [if_pos h1, if_pos h1]
  · rw [if_neg h1, if_neg h1]
    by_cases h2 : (wv L' 0 false).2 = true
    · rw [if_pos h2, if_pos h2]
    · rw [if_neg h2, if_neg h2]
      have f' := (wv_fin h').1 (by simpa using h2)
      have f := (wv_fin h).1 (by rw [e]; simpa using h2)
      have a := tot_ok f h1
      have b := tot_ok f' (by omega)
      have : tot L dz = tot L' dz := S_inj a.1 b.1 (by rw [a.2, b.2, hv])
      rw [this]
theorem sm_iff {L : List Int} : sm L = true ↔ ∃ c, ∀ x ∈ L, x = c := by
  unfold sm
  rw [List.all_eq_true]
  constructor
  · intro h; exact ⟨L.headD 0, fun x hx => by simpa using h x hx⟩
  · rintro ⟨c, h⟩ x hx
    cases L with
    | nil => cases hx
    | cons y t => simp; rw [h x hx, h y (by simp)]
theorem head_mem {L : List Int} (h : L ≠ []) : L.headD 0 ∈ L := by
  cases L with
  | nil => exact absurd rfl h
  | cons y t => simp
theorem ZR_rev (L : List Int) (mode : Int) : ZR L.reverse mode = ZR L mode := by
  unfold ZR
  by_cases h0 : L = []
  · subst h0; rfl
  · rw [if_neg h0, if_neg (by simpa using h0)]
    have e : sm L.reverse = sm L := by
      rw [Bool.eq_iff_iff, sm_iff, sm_iff]
      constructor
      · rintro ⟨c, h⟩; exact ⟨c, fun x hx => h x (by simpa using hx)⟩
      · rintro ⟨c, h⟩; exact ⟨c, fun x hx => h x (by simpa using hx)⟩
    rw [e]
    by_cases h1 : sm L = true
    · rw [if_pos h1, if_pos h1]
      obtain ⟨c, h⟩ := sm_iff.1 h1
      rw [h _ (head_mem h0), h (L.reverse.headD 0) (by have := head_mem (L := L.reverse) (by simpa using h0); simpa using this)]
    · rw [if_neg h1, if_neg h1]
theorem u64s_rev {L : List Int} (h : u64s L) : u64s L.reverse := fun x hx => h x (by simpa using hx)
theorem AT_rev {L : List Int} (mode : Int) (h : u64s L) : AT L.reverse mode = AT L mode :=
  AT_congr (u64s_rev h) h (by simp) (by unfold hN; simp) (by unfold hP; simp) (by unfold hM; simp) (vs_reverse L) (ZR_rev L mode)
theorem AT_comm {x y mode : Int} (hx : 0 ≤ x ∧ x ≤ 18446744073709551615) (hy : 0 ≤ y ∧ y ≤ 18446744073709551615) : AT [x, y] mode = AT [y, x] mode :=
  AT_rev (L := [y, x]) mode (by intro z hz; simp at hz; rcases hz with rfl | rfl <;> assumption)
/-- values -/
theorem fi_mod {x : Int} (h : fi x) : x % 9223372036854775808 ≤ 9218868437227405311 := (of_p h.1 h.2.1 h.2.2).2.2.2
theorem fi_of {x : Int} (h0 : 0 ≤ x) (h1 : x ≤ 18446744073709551615) (h : x % 9223372036854775808 ≤ 9218868437227405311) : fi x := ⟨h0, h1, by unfold F.exq; omega⟩
theorem fi_neg {x : Int} (h : fi x) : fi (F.neg x) := by
  have := F.neg_bd x h.1 h.2.1
  exact ⟨this.1, this.2, by rw [F.exq_neg]; exact h.2.2⟩
theorem val_neg {x : Int} (h : fi x) : val (F.neg x) = -val x := by
  rw [val_eq (fi_neg h), val_eq h, F.sgn_neg x h.1 h.2.1]
  have e : F.neg x % 9223372036854775808 = x % 9223372036854775808 := F.abs_neg x
  rw [e]
  unfold sgm
  cases F.sgn x <;> simp
theorem val_rnk {x : Int} (h : fi x) : (0 ≤ F.rnk x → val x = U (F.rnk x)) ∧ (F.rnk x < 0 → val x = -U (-F.rnk x)) := by
  rw [val_eq h]
  have h0 := h.1
  have h1 := h.2.1
  have hs := F.sgn_iff x
  have hs' := F.sgn_iff' x
  cases hc : F.sgn x
  · have h2 := hs'.1 hc
    have e : F.rnk x = x := by unfold F.rnk; rw [if_pos h2]
    rw [e]
    refine ⟨fun _ => ?_, fun h => by omega⟩
    unfold sgm
    rw [show x % 9223372036854775808 = x by omega]; simp
  · have h2 := hs.1 hc
    have e : F.rnk x = 9223372036854775808 - x := by unfold F.rnk; rw [if_neg (by omega)]
    rw [e]
    unfold sgm
    refine ⟨fun h3 => ?_, fun h3 => ?_⟩
    · rw [show x % 9223372036854775808 = 0 by omega, show 9223372036854775808 - x = 0 by omega, U_zero]; simp
    · rw [show x % 9223372036854775808 = -(9223372036854775808 - x) by omega]; simp
theorem val_le {x y : Int} (hx : fi x) (hy : fi y) (h : F.rnk x ≤ F.rnk y) : val x ≤ val y := by
  have a := val_rnk hx
  have b := val_rnk hy
  rcases Int.lt_or_le (F.rnk x) 0 with h1 | h1
  · rw [a.2 h1]
    have p1 := U_pos (r := -F.rnk x) (by omega)
    rcases Int.lt_or_le (F.rnk y) 0 with h2 | h2
    · rw [b.2 h2]
      have := U_le (r := -F.rnk y) (s := -F.rnk x) (by omega) (by omega)
      omega
    · rw [b.1 h2]
      have := U_pos h2
      omega
  · rw [a.1 h1, b.1 (by omega)]
    exact U_le h1 h
theorem val_pos {x : Int} (hx : fi x) (h : 0 ≤ F.rnk x) : 0 ≤ val x := by rw [(val_rnk hx).1 h]; exact U_pos h
theorem val_zero {x : Int} (hx : fi x) (h : val x = 0) : x = 0 ∨ x = 9223372036854775808 := by
  have h0 := hx.1
  have h1 := hx.2.1
  rw [val_eq hx] at h
  have hu : U (x % 9223372036854775808) = 0 := by
    unfold sgm at h
    split at h <;> omega
  have h2 : ¬ 0 < x % 9223372036854775808 := fun h3 => by
    have := U_lt (r := 0) (by omega) h3
    rw [U_zero] at this
    omega
  omega
theorem vs_const {L : List Int} {c : Int} (h : ∀ x ∈ L, x = c) : vs L = L.length * val c := by
  induction L with
  | nil => simp [vs]
  | cons x t ih =>
    have := h x (by simp)
    subst this
    rw [vs, ih fun y hy => h y (by simp [hy]), List.length_cons]
    have e : ((t.length + 1 : Nat) : Int) = t.length + 1 := by omega
    rw [e, Int.add_mul]; omega
theorem ZR_zero {L : List Int} (mode : Int) (hf : ∀ x ∈ L, fi x) (h : vs L = 0) : ZR L mode = 0 ∨ ZR L mode = 9223372036854775808 := by
  unfold ZR
  by_cases h0 : L = []
  · rw [if_pos h0]; exact .inl rfl
  · rw [if_neg h0]
    by_cases h1 : sm L = true
    · rw [if_pos h1]
      obtain ⟨c, hc⟩ := sm_iff.1 h1
      have hm := head_mem h0
      rw [hc _ hm]
      rw [vs_const hc] at h
      have hfc : fi c := by have := hf _ hm; rwa [hc _ hm] at this
      rcases Int.mul_eq_zero.1 h with h2 | h2
      · have : L.length = 0 := by omega
        exact absurd (List.length_eq_zero_iff.1 this) h0
      · exact val_zero hfc h2
    · rw [if_neg h1]; split <;> simp
theorem ZR_cls {L : List Int} (mode : Int) (hf : ∀ x ∈ L, fi x) (h : vs L = 0) : F.cls (ZR L mode) = 1 ∧ F.rnk (ZR L mode) = 0 := by
  rcases ZR_zero mode hf h with e | e <;> rw [e] <;> decide
/-- the finite case -/
theorem AT_fin {L : List Int} {mode : Int} (hm : 0 ≤ mode ∧ mode ≤ 4) (hl : ¬ 200 < L.length) (hf : ∀ x ∈ L, fi x) :
    (vs L = 0 → AT L mode = (ZR L mode, false, 0)) ∧ (vs L ≠ 0 → AT L mode = (TX (tot L dz) mode, TL (tot L dz) mode, 0)) := by
  have hu : u64s L := fun x hx => ⟨(hf x hx).1, (hf x hx).2.1⟩
  have h2 := (wv_fin hu).2 hf
  have t := tot_ok hf hl
  unfold AT
  rw [if_neg (by simpa using hm), if_neg hl, if_neg (by rw [h2]; simp)]
  constructor
  · intro h; rw [if_pos (by rw [S_m, t.2]; exact h)]
  · intro h; rw [if_neg (by rw [S_m, t.2]; exact h)]
theorem TX_zero {d : Dy} {mode : Int} (hm : 0 ≤ mode ∧ mode ≤ 4) (h : Ok d) (h0 : S d = 0) : F.rnk (TX d mode) = 0 := by
  have a := (A_abs d).1 (by omega)
  have t : Tow (A d) 0 false false := by rw [a.1, h0]; exact tow_zero
  rw [(TX_of h hm t).1, ry_none, a.2]
  decide
theorem AT_rnk {L : List Int} {mode : Int} (hm : 0 ≤ mode ∧ mode ≤ 4) (hl : ¬ 200 < L.length) (hf : ∀ x ∈ L, fi x) : F.rnk (AT L mode).1 = F.rnk (TX (tot L dz) mode) ∧ (AT L mode).2.2 = 0 := by
  have a := AT_fin hm hl hf
  have t := tot_ok hf hl
  by_cases h : vs L = 0
  · rw [a.1 h]
    exact ⟨by rw [(ZR_cls mode hf h).2, TX_zero hm t.1 (by rw [t.2]; exact h)], rfl⟩
  · rw [a.2 h]; exact ⟨rfl, rfl⟩
/-- two numbers -/
theorem u2 {x y : Int} (hx : 0 ≤ x ∧ x ≤ 18446744073709551615) (hy : 0 ≤ y ∧ y ≤ 18446744073709551615) : u64s [x, y] := by
  intro z hz; simp at hz; rcases hz with rfl | rfl <;> assumption
theorem f2 {x y : Int} (hx : fi x) (hy : fi y) : ∀ z ∈ [x, y], fi z := by
  intro z hz; simp at hz; rcases hz with rfl | rfl <;> assumption
theorem AT_wv {L : List Int} {mode : Int} (hm : 0 ≤ mode ∧ mode ≤ 4) (hl : ¬ 200 < L.length) (hu : u64s L) (h : ¬ ∀ x ∈ L, fi x) : AT L mode = ((WV (hN L) (hP L) (hM L)).1, false, 0) := by
  have h2 : (wv L 0 false).2 = true := by
    rcases Bool.eq_false_or_eq_true (wv L 0 false).2 with h3 | h3
    · exact h3
    · exact absurd ((wv_fin hu).1 h3) h
  unfold AT
  rw [if_neg (by simpa using hm), if_neg hl, if_pos h2, wv_eq hu]
theorem AT_no {L : List Int} {mode : Int} (hm : ¬ (0 ≤ mode ∧ mode ≤ 4)) : AT L mode = (0, false, 1) := by unfold AT; rw [if_pos hm]
theorem AT_large {L : List Int} {mode : Int} (hm : 0 ≤ mode ∧ mode ≤ 4) (hl : 200 < L.length) : AT L mode = (0, false, 2) := by unfold AT; rw [if_neg (by simpa using hm), if_pos hl]
theorem AT_bd {L : List Int} (mode : Int) (hu : u64s L) : 0 ≤ (AT L mode).1 ∧ (AT L mode).1 ≤ 18446744073709551615 := by
  by_cases hm : 0 ≤ mode ∧ mode ≤ 4
  · by_cases hl : 200 < L.length
    · rw [AT_large hm hl]; exact ⟨by simp, by simp⟩
    · by_cases hf : ∀ x ∈ L, fi x
      · have a := AT_fin hm hl hf
        have t := tot_ok hf hl
        by_cases h : vs L = 0
        · rw [a.1 h]; rcases ZR_zero mode hf h with e | e <;> rw [e] <;> simp
        · rw [a.2 h]
          have := TX_bd (tot L dz) mode fun _ => t.1
          exact ⟨this.1, this.2.1⟩
      · rw [AT_wv hm hl hu hf]
        unfold WV
        cases hN L <;> cases hP L <;> cases hM L <;> simp
  · rw [AT_no hm]; exact ⟨by simp, by simp⟩
theorem AT_e {L : List Int} {mode : Int} (hl : ¬ 200 < L.length) (hu : u64s L) : (AT L mode).2.2 = 0 ↔ (0 ≤ mode ∧ mode ≤ 4) := by
  by_cases hm : 0 ≤ mode ∧ mode ≤ 4
  · refine ⟨fun _ => hm, fun _ => ?_⟩
    by_cases hf : ∀ x ∈ L, fi x
    · exact (AT_rnk hm hl hf).2
    · rw [AT_wv hm hl hu hf]
  · refine ⟨fun h => ?_, fun h => absurd h hm⟩
    rw [AT_no hm] at h; cases h
end SC
end Go.Proofs.YtejglcpiihkenaaGreatDoor

/-
  Package sum, pure: turned; small ones; Sterbenz; in order; once.
-/
namespace Go.Proofs.YtejglcpiihkenaaGreatDoor
set_option linter.unusedVariables false
set_option linter.unusedSimpArgs false
open Go.RowKit
set_option linter.unusedVariables false
set_option linter.unusedSimpArgs false
namespace SC
open L NC NK DC RC
theorem S_neg (d : Dy) : S (neg d) = -S d := sc_neg _ _
theorem WV_turn (n p m : Bool) : (F.cls (WV n p m).1 = 5 ∧ F.cls (WV n m p).1 = 5) ∨ (F.cls (WV n p m).1 = 1 ∧ F.cls (WV n m p).1 = 1) ∨ (WV n m p).1 = F.neg (WV n p m).1 := by
  cases n <;> cases p <;> cases m <;> decide
theorem neg_P {x : Int} (h0 : 0 ≤ x) (h1 : x ≤ 18446744073709551615) : (F.neg x == 9218868437227405312) = (x == 18442240474082181120) ∧ (F.neg x == 18442240474082181120) = (x == 9218868437227405312) := by
  constructor <;> rw [Bool.eq_iff_iff, beq_iff_eq, beq_iff_eq] <;> unfold F.neg <;> split <;> omega
theorem or2 (a b : Bool) : (a || (b || false)) = (b || (a || false)) := by cases a <;> cases b <;> rfl
theorem sub_turn {x y mode : Int} (hx : 0 ≤ x ∧ x ≤ 18446744073709551615) (hy : 0 ≤ y ∧ y ≤ 18446744073709551615) (hm : 0 ≤ mode ∧ mode ≤ 4) :
    (F.cls (AT [x, F.neg y] mode).1 = 5 ∧ F.cls (AT [y, F.neg x] (tm mode)).1 = 5) ∨ (F.cls (AT [x, F.neg y] mode).1 = 1 ∧ F.cls (AT [y, F.neg x] (tm mode)).1 = 1) ∨ (AT [y, F.neg x] (tm mode)).1 = F.neg (AT [x, F.neg y] mode).1 := by
  have hm' : 0 ≤ tm mode ∧ tm mode ≤ 4 := by unfold tm; split; omega; split <;> omega
  have nx := F.neg_bd x hx.1 hx.2
  have ny := F.neg_bd y hy.1 hy.2
  have l1 : ¬ 200 < [x, F.neg y].length := by simp
  have l2 : ¬ 200 < [y, F.neg x].length := by simp
  by_cases hf : fi x ∧ fi y
  · obtain ⟨fx, fy⟩ := hf
    have f1 := f2 fx (fi_neg fy)
    have f2' := f2 fy (fi_neg fx)
    have a := AT_fin hm l1 f1
    have b := AT_fin hm' l2 f2'
    have v1 : vs [x, F.neg y] = val x - val y := by simp [vs, val_neg fy]; omega
    have v2 : vs [y, F.neg x] = val y - val x := by simp [vs, val_neg fx]; omega
    by_cases h0 : vs [x, F.neg y] = 0
    · right; left
      have h0' : vs [y, F.neg x] = 0 := by omega
      rw [a.1 h0, b.1 h0']
      exact ⟨(ZR_cls mode f1 h0).1, (ZR_cls _ f2' h0').1⟩
    · right; right
      have h0' : vs [y, F.neg x] ≠ 0 := by omega
      rw [a.2 h0, b.2 h0']
      have t1 := tot_ok f1 l1
      have t2 := tot_ok f2' l2
      have hne : (tot [x, F.neg y] dz).m ≠ 0 := fun h => h0 (by rw [← t1.2]; exact S_m.1 h)
      have tp := turned_p t1.1 hne hm
      have e : tot [y, F.neg x] dz = neg (tot [x, F.neg y] dz) := S_inj t2.1 tp.1 (by rw [S_neg, t1.2, t2.2, v1, v2]; omega)
      rw [e]
      exact tp.2.2.1
  · have h1 : ¬ ∀ z ∈ [x, F.neg y], fi z := fun h => hf ⟨h x (by simp), by
      have := fi_neg (h (F.neg y) (by simp)); rwa [F.neg_neg y hy.1 hy.2] at this⟩
    have h2 : ¬ ∀ z ∈ [y, F.neg x], fi z := fun h => hf ⟨by
      have := fi_neg (h (F.neg x) (by simp)); rwa [F.neg_neg x hx.1 hx.2] at this, h y (by simp)⟩
    rw [AT_wv hm l1 (u2 hx ny) h1, AT_wv hm' l2 (u2 hy nx) h2]
    have e1 : hN [y, F.neg x] = hN [x, F.neg y] := by simp [hN, F.cls_neg, Bool.or_comm]
    have e2 : hP [y, F.neg x] = hM [x, F.neg y] := by simp only [hP, hM, List.any_cons, List.any_nil, (neg_P hx.1 hx.2).1, (neg_P hy.1 hy.2).2]; exact or2 _ _
    have e3 : hM [y, F.neg x] = hP [x, F.neg y] := by simp only [hP, hM, List.any_cons, List.any_nil, (neg_P hx.1 hx.2).2, (neg_P hy.1 hy.2).1]; exact or2 _ _
    rw [e1, e2, e3]
    exact WV_turn _ _ _
/-- in order -/
theorem AT2 {x z mode : Int} (hm : 0 ≤ mode ∧ mode ≤ 4) (hx : 0 ≤ x ∧ x ≤ 18446744073709551615) (hz : 0 ≤ z ∧ z ≤ 18446744073709551615) (hn : F.cls x ≠ 5) (ha : F.cls (AT [x, z] mode).1 ≠ 5) :
    (fi x ∧ fi z) ∨ ((AT [x, z] mode).1 = 9218868437227405312 ∧ (x = 9218868437227405312 ∨ (fi x ∧ z = 9218868437227405312))) ∨ ((AT [x, z] mode).1 = 18442240474082181120 ∧ (x = 18442240474082181120 ∨ (fi x ∧ z = 18442240474082181120))) := by
  by_cases hf : fi x ∧ fi z
  · exact .inl hf
  · right
    have h1 : ¬ ∀ y ∈ [x, z], fi y := fun h => hf ⟨h x (by simp), h z (by simp)⟩
    rw [AT_wv hm (by simp) (u2 hx hz) h1] at ha ⊢
    have c5 : F.cls (9221120237041090560 : Int) = 5 := by decide
    have hnz : F.cls z ≠ 5 := fun h => by
      have : hN [x, z] = true := by simp [hN, h]
      rw [this] at ha
      exact ha (by simp only [WV, Bool.true_or, if_true]; exact c5)
    have e0 : hN [x, z] = false := by simp [hN, hn, hnz]
    have kx : fi x ∨ x = 9218868437227405312 ∨ x = 18442240474082181120 := by
      by_cases h4 : F.cls x = 4
      · exact .inr ((cls_inf hx.1 hx.2).1 h4)
      · exact .inl ⟨hx.1, hx.2, cls_fi.1 ⟨hn, h4⟩⟩
    have kz : fi z ∨ z = 9218868437227405312 ∨ z = 18442240474082181120 := by
      by_cases h4 : F.cls z = 4
      · exact .inr ((cls_inf hz.1 hz.2).1 h4)
      · exact .inl ⟨hz.1, hz.2, cls_fi.1 ⟨hnz, h4⟩⟩
    have nfi : ∀ y, fi y → (y == 9218868437227405312) = false ∧ (y == 18442240474082181120) = false := fun y hy => by
      have := fi_mod hy
      constructor <;> rw [beq_eq_false_iff_ne] <;> rintro rfl <;> simp at this
    rw [e0] at ha ⊢
    rcases kx with fx | rfl | rfl
    · have ex := nfi x fx
      rcases kz with fz | rfl | rfl
      · exact absurd ⟨fx, fz⟩ hf
      · left
        have p : hP [x, 9218868437227405312] = true := by simp [hP]
        have q : hM [x, 9218868437227405312] = false := by simp only [hM, List.any_cons, List.any_nil, ex.2]; rfl
        rw [p, q]; exact ⟨rfl, .inr ⟨fx, rfl⟩⟩
      · right
        have p : hP [x, 18442240474082181120] = false := by simp only [hP, List.any_cons, List.any_nil, ex.1]; rfl
        have q : hM [x, 18442240474082181120] = true := by simp [hM]
        rw [p, q]; exact ⟨rfl, .inr ⟨fx, rfl⟩⟩
    · left
      have p : hP [9218868437227405312, z] = true := by simp [hP]
      rw [p] at ha ⊢
      cases hq : hM [9218868437227405312, z]
      · exact ⟨rfl, .inl rfl⟩
      · rw [hq] at ha; exact absurd c5 ha
    · right
      have p : hM [18442240474082181120, z] = true := by simp [hM]
      rw [p] at ha ⊢
      cases hq : hP [18442240474082181120, z]
      · exact ⟨rfl, .inl rfl⟩
      · rw [hq] at ha; exact absurd c5 ha
theorem cls_nn {x : Int} : F.cls x ≠ 5 ↔ F.nn x := by
  have := F.cls_nan x
  unfold F.nn
  constructor
  · intro h; rcases Int.lt_or_le 9218868437227405312 (x % 9223372036854775808) with h1 | h1
    · exact absurd (this.2 h1) h
    · exact h1
  · intro h h1; have := this.1 h1; omega
theorem rnk_lim {x : Int} (hx : 0 ≤ x ∧ x ≤ 18446744073709551615) (h : F.nn x) : -9218868437227405312 ≤ F.rnk x ∧ F.rnk x ≤ 9218868437227405312 := by
  unfold F.nn at h; unfold F.rnk; split <;> omega
theorem rnk_fi {x : Int} (h : fi x) : -9218868437227405311 ≤ F.rnk x ∧ F.rnk x ≤ 9218868437227405311 := by
  have h0 := h.1
  have h1 := h.2.1
  have := fi_mod h
  unfold F.rnk; split <;> omega
theorem rP : F.rnk 9218868437227405312 = 9218868437227405312 := by decide
theorem rM : F.rnk 18442240474082181120 = -9218868437227405312 := by decide
theorem order_sum {x y z mode : Int} (hm : 0 ≤ mode ∧ mode ≤ 4) (hx : 0 ≤ x ∧ x ≤ 18446744073709551615) (hy : 0 ≤ y ∧ y ≤ 18446744073709551615) (hz : 0 ≤ z ∧ z ≤ 18446744073709551615) (nx : F.nn x) (ny : F.nn y) (h : F.rnk x ≤ F.rnk y)
    (na : F.nn (AT [x, z] mode).1) (nb : F.nn (AT [y, z] mode).1) : F.rnk (AT [x, z] mode).1 ≤ F.rnk (AT [y, z] mode).1 := by
  have l1 := rnk_lim (AT_bd mode (u2 hx hz)) na
  have l2 := rnk_lim (AT_bd mode (u2 hy hz)) nb
  have z1 : ∀ a : Int, fi a → a ≠ 9218868437227405312 ∧ a ≠ 18442240474082181120 := fun a ha => by
    have := fi_mod ha
    constructor <;> rintro rfl <;> simp at this
  rcases AT2 hm hx hz (cls_nn.2 nx) (cls_nn.2 na) with ⟨fx, fz⟩ | ⟨ea, ka⟩ | ⟨ea, ka⟩
  · have rx' := rnk_fi fx
    rcases AT2 hm hy hz (cls_nn.2 ny) (cls_nn.2 nb) with ⟨fy, -⟩ | ⟨eb, kb⟩ | ⟨eb, kb⟩
    · rw [(AT_rnk hm (by simp) (f2 fx fz)).1, (AT_rnk hm (by simp) (f2 fy fz)).1]
      have t1 := tot_ok (f2 fx fz) (by simp)
      have t2 := tot_ok (f2 fy fz) (by simp)
      apply order_p t1.1 t2.1 hm
      rw [t1.2, t2.2]
      have := val_le fx fy h
      simp [vs]; omega
    · rw [eb, rP]; exact l1.2
    · rcases kb with rfl | ⟨-, rfl⟩
      · rw [rM] at h; omega
      · exact absurd rfl (z1 _ fz).2
  · rcases AT2 hm hy hz (cls_nn.2 ny) (cls_nn.2 nb) with ⟨fy, fz⟩ | ⟨eb, kb⟩ | ⟨eb, kb⟩
    · rcases ka with rfl | ⟨-, rfl⟩
      · have := rnk_fi fy; rw [rP] at h; omega
      · exact absurd rfl (z1 _ fz).1
    · rw [ea, eb]; exact Int.le_refl _
    · rcases ka with rfl | ⟨fx, rfl⟩
      · rcases kb with rfl | ⟨fy, rfl⟩
        · rw [rP, rM] at h; omega
        · have := rnk_fi fy; rw [rP] at h; omega
      · rcases kb with rfl | ⟨fy, hh⟩
        · have := rnk_fi fx; rw [rM] at h; omega
        · cases hh
  · rw [ea, rM]; exact l2.1
theorem order_up {x z mode : Int} (hm : 0 ≤ mode ∧ mode ≤ 4) (hx : 0 ≤ x ∧ x ≤ 18446744073709551615) (hz : 0 ≤ z ∧ z ≤ 18446744073709551615) (nx : F.nn x) (na : F.nn (AT [x, z] mode).1) (h : 0 ≤ F.rnk z) : F.rnk x ≤ F.rnk (AT [x, z] mode).1 := by
  have l1 := rnk_lim hx nx
  rcases AT2 hm hx hz (cls_nn.2 nx) (cls_nn.2 na) with ⟨fx, fz⟩ | ⟨ea, ka⟩ | ⟨ea, ka⟩
  · rw [(AT_rnk hm (by simp) (f2 fx fz)).1]
    have t1 := tot_ok (f2 fx fz) (by simp)
    have s := same_p fx.1 fx.2.1 fx.2.2 hm
    have e : F.rnk (TX (OfD x).d mode) = F.rnk x := by
      rcases s.2.2 with h1 | ⟨-, rfl, h2⟩
      · rw [eq_of_beq h1]
      · rw [h2]; decide
    rw [← e]
    apply order_p (of_p fx.1 fx.2.1 fx.2.2).2.1 t1.1 hm
    rw [t1.2]
    have := val_pos fz h
    simp only [vs]
    unfold val at *
    omega
  · rw [ea, rP]; exact l1.2
  · rcases ka with rfl | ⟨fx, rfl⟩
    · rw [ea]; exact Int.le_refl _
    · rw [rM] at h; omega
/-- small ones -/
theorem rx_small {b : Bool} {y : Int} (h0 : 0 ≤ y) (h1 : y ≤ 9218868437227405312) (h : F.cls (rx b y) ≤ 2) : y < 4503599627370496 := by
  have e : rx b y % 9223372036854775808 = y := by
    unfold rx F.neg
    cases b
    · simp; omega
    · simp; rw [if_pos (by omega)]; omega
  have hb := F.exq_bd (rx b y)
  have : F.exq (rx b y) = 0 := by
    unfold F.cls at h
    by_cases h2 : F.exq (rx b y) = 0
    · exact h2
    · rw [if_neg h2] at h
      split at h
      · omega
      · split at h <;> omega
  unfold F.exq at this
  rw [e] at this
  omega
theorem small_p {d : Dy} {mode : Int} (hm : 0 ≤ mode ∧ mode ≤ 4) (h : Ok d) (hx : -1074 ≤ d.x) (hc : F.cls (TX d mode) ≤ 2) : TL d mode = false := by
  obtain ⟨r, hf, m, t, -⟩ := towA h
  obtain ⟨e1, e2, -⟩ := TX_of h hm t
  have k := ry_bd (b := ng d) t mode
  rw [e1] at hc
  have hy := rx_small k.1 k.2.1 hc
  have hr : r < 4503599627370496 := by omega
  have hr0 := t.r0
  obtain ⟨u0, u1⟩ := U_of (k := 0) (q := r) hr0 (by omega) (.inl rfl)
  rw [show ((0 : Nat) : Int) * 4503599627370496 + r = r by omega, show ((0 : Nat) : Int) - 1074 = -1074 by omega] at u0 u1
  obtain ⟨j, hj⟩ : ∃ j : Nat, d.x + 1074 = j := ⟨(d.x + 1074).toNat, by omega⟩
  have eA : A d = ((d.m.natAbs : Int) * 2 ^ j) * sc 1 (-1074) := by
    unfold A
    rw [← sc_mul1, sc_shift _ _ _ (by omega)]
    congr 1; omega
  have l := t.lo
  have hi := t.hi (by omega)
  have hE := sc_one_pos (-1074)
  have th := t.hh
  have tmm := t.hm
  rw [e2]
  rw [u0, u1] at th tmm
  rw [u0] at l
  rw [u1] at hi
  rw [eA] at l hi th tmm
  generalize sc 1 (-1074) = E at *
  generalize (d.m.natAbs : Int) * 2 ^ j = N at *
  have a1 : r ≤ N := Int.le_of_mul_le_mul_right l hE
  have a2 : N < r + 1 := Int.lt_of_mul_lt_mul_right hi (Int.le_of_lt hE)
  obtain rfl : N = r := by omega
  have h1 : hf = false := by
    rw [th, decide_eq_false_iff_not, Int.add_mul, Int.one_mul]; omega
  have h2 : m = false := by
    rw [tmm, decide_eq_false_iff_not]; intro h; exact h.1 rfl
  rw [h1, h2]; rfl
theorem small_sum {x y mode : Int} (hm : 0 ≤ mode ∧ mode ≤ 4) (hx : 0 ≤ x ∧ x ≤ 18446744073709551615) (hy : 0 ≤ y ∧ y ≤ 18446744073709551615) (hc : F.cls (AT [x, y] mode).1 ≤ 2) : (AT [x, y] mode).2.1 = false := by
  by_cases hf : ∀ z ∈ [x, y], fi z
  · have a := AT_fin hm (by simp) hf
    by_cases h0 : vs [x, y] = 0
    · rw [a.1 h0]
    · rw [a.2 h0] at hc ⊢
      have t := tot_fit [x, y] dz 0 hf fit_zero (by simp)
      exact small_p hm t.1.ok t.1.x hc
  · rw [AT_wv hm (by simp) (u2 hx hy) hf]
/-- what has few bits is a number -/
theorem rep : ∀ (k : Nat) (q : Int), 0 ≤ q → q < 9007199254740992 → ∃ r, 0 ≤ r ∧ V r = q * 2 ^ k := by
  intro k
  induction k with
  | zero =>
    intro q h0 h1
    have := (V_of (k := 0) h0 h1 (.inl rfl)).1
    exact ⟨((0 : Nat) : Int) * 4503599627370496 + q, by omega, this⟩
  | succ k ih =>
    intro q h0 h1
    by_cases h2 : 4503599627370496 ≤ q
    · exact ⟨_, by omega, (V_of (k := k + 1) h0 h1 (.inr h2)).1⟩
    · obtain ⟨r, r0, hr⟩ := ih (2 * q) (by omega) (by omega)
      refine ⟨r, r0, ?_⟩
      rw [hr, Int.pow_succ, Int.mul_comm (2 ^ k) 2, ← Int.mul_assoc, Int.mul_comm q 2]
theorem exact_p {d : Dy} {mode r : Int} (hm : 0 ≤ mode ∧ mode ≤ 4) (h : Ok d) (r0 : 0 ≤ r) (r1 : r ≤ 9218868437227405311) (e : A d = U r) : TL d mode = false ∧ fi (TX d mode) ∧ val (TX d mode) = S d := by
  have t := tow_exact r0 r1
  rw [← e] at t
  obtain ⟨e1, e2, -⟩ := TX_of h hm t
  rw [ry_none] at e1
  have b := rx_bd (b := ng d) r0 (show r ≤ 9218868437227405312 by omega)
  have hmod : rx (ng d) r % 9223372036854775808 = r ∧ F.sgn (rx (ng d) r) = ng d := by
    unfold rx F.neg F.sgn
    cases ng d
    · simp; omega
    · simp; rw [if_pos (by omega)]; omega
  have hf : fi (TX d mode) := by
    rw [e1]
    exact fi_of b.1 b.2.1 (by rw [hmod.1]; omega)
  refine ⟨by rw [e2]; rfl, hf, ?_⟩
  rw [val_eq hf, e1, hmod.1, hmod.2, ← e]
  have a := A_abs d
  rcases Int.lt_or_le (S d) 0 with h1 | h1
  · rw [(a.2 h1).1, (a.2 h1).2]; unfold sgm; simp
  · rw [(a.1 h1).1, (a.1 h1).2]; unfold sgm; simp
/-- the unit of a number -/
theorem unit_ex {x : Int} (h : fi x) : ∃ (k : Nat) (q : Int), 0 ≤ q ∧ q < 9007199254740992 ∧ val x = sgm (F.sgn x) (q * sc 1 (k - 1074)) := by
  have h2 := fi_mod h
  obtain ⟨k, q, e, q0, q1, hc⟩ := r_parts (show 0 ≤ x % 9223372036854775808 by omega)
  refine ⟨k, q, q0, q1, ?_⟩
  rw [val_eq h, e, (U_of q0 q1 hc).1]
theorem rank_of {N a q M E : Int} {k : Nat} (hM : M = 9218868437227405311) (hE : E = sc 1 (k - 1074)) (ha : a = N * E) (hN : 0 ≤ N) (hq : N ≤ q) (q1 : q < 9007199254740992) (hU : a ≤ U M) : ∃ r, 0 ≤ r ∧ r ≤ M ∧ a = U r := by
  obtain ⟨r, r0, hr⟩ := rep k N hN (by omega)
  have e : U r = a := by
    unfold U
    rw [hr, ha, hE, sc_shift _ _ _ (by omega), sc_mul1, show -1074 + (k : Int) = k - 1074 by omega]
  refine ⟨r, r0, ?_, e.symm⟩
  rcases Int.lt_or_le M r with h | h
  · have := U_lt (r := M) (by omega) h
    omega
  · exact h
theorem ster_rank {x y : Int} (hx : fi x) (hy : fi y) (h : (0 ≤ val y ∧ val y ≤ 2 * val x ∧ val x ≤ 2 * val y) ∨ (val y ≤ 0 ∧ 2 * val y ≤ val x ∧ 2 * val x ≤ val y)) :
    ∃ r, 0 ≤ r ∧ r ≤ 9218868437227405311 ∧ ((0 ≤ val x - val y → val x - val y = U r) ∧ (val x - val y < 0 → -(val x - val y) = U r)) := by
  obtain ⟨M, hM⟩ : ∃ M : Int, M = 9218868437227405311 := ⟨_, rfl⟩
  have bx : val x ≤ U M ∧ -U M ≤ val x := by
    have := fi_mod hx
    have h1 := U_le (r := x % 9223372036854775808) (s := M) (by omega) (by omega)
    have h2 := U_pos (r := x % 9223372036854775808) (by omega)
    rw [val_eq hx]; unfold sgm; split <;> omega
  have by' : val y ≤ U M ∧ -U M ≤ val y := by
    have := fi_mod hy
    have h1 := U_le (r := y % 9223372036854775808) (s := M) (by omega) (by omega)
    have h2 := U_pos (r := y % 9223372036854775808) (by omega)
    rw [val_eq hy]; unfold sgm; split <;> omega
  obtain ⟨k, p, p0, p1, ex⟩ := unit_ex hx
  obtain ⟨j, q, q0, q1, ey⟩ := unit_ex hy
  -- signed digits over the lesser unit
  have key : ∀ (i : Nat) (E : Int), E = sc 1 (i - 1074) → (∃ X Y n : Int, val x = X * E ∧ val y = Y * E ∧ n < 9007199254740992 ∧ 0 ≤ n ∧ ((val x = n * E ∨ val x = -(n * E)) ∨ (val y = n * E ∨ val y = -(n * E)))) → ∃ r, 0 ≤ r ∧ r ≤ M ∧ ((0 ≤ val x - val y → val x - val y = U r) ∧ (val x - val y < 0 → -(val x - val y) = U r)) := by
    rintro i E hE ⟨X, Y, n, hX, hY, hn, hn0, hk⟩
    have hp : 0 < E := by rw [hE]; exact sc_one_pos _
    rw [hX] at bx
    rw [hY] at by'
    rw [hX, hY] at h hk
    rw [hX, hY, ← Int.sub_mul]
    have c : ∀ a b : Int, a * E ≤ b * E ↔ a ≤ b := fun a b => ⟨fun h => Int.le_of_mul_le_mul_right h hp, fun h => Int.mul_le_mul_of_nonneg_right h (Int.le_of_lt hp)⟩
    have c0 : ∀ a : Int, 0 ≤ a * E ↔ 0 ≤ a := fun a => by have := c 0 a; rwa [Int.zero_mul] at this
    have c1 : ∀ a : Int, a * E ≤ 0 ↔ a ≤ 0 := fun a => by have := c a 0; rwa [Int.zero_mul] at this
    have ce : ∀ a b : Int, a * E = b * E ↔ a = b := fun a b => ⟨fun h => Int.eq_of_mul_eq_mul_right (Int.ne_of_gt hp) h, fun h => by rw [h]⟩
    have hXY : (0 ≤ Y ∧ Y ≤ 2 * X ∧ X ≤ 2 * Y) ∨ (Y ≤ 0 ∧ 2 * Y ≤ X ∧ 2 * X ≤ Y) := by
      rw [← Int.mul_assoc, ← Int.mul_assoc, c, c, c0, c, c, c1] at h
      exact h
    have hK : (X = n ∨ X = -n) ∨ (Y = n ∨ Y = -n) := by
      rw [← Int.neg_mul, ce, ce, ce, ce] at hk
      exact hk
    clear c c0 c1 ce h hk hX hY ex ey
    have b0 : (X - Y) * E = X * E - Y * E := Int.sub_mul _ _ _
    have hb : (X - Y) * E ≤ U M ∧ -((X - Y) * E) ≤ U M := by
      have hle : ∀ a b : Int, a ≤ b → a * E ≤ b * E := fun a b h => Int.mul_le_mul_of_nonneg_right h (Int.le_of_lt hp)
      rcases hXY with h | h
      · have i1 := hle (X - Y) X (by omega)
        have i2 := hle (-(X - Y)) Y (by omega)
        rw [Int.neg_mul] at i2
        omega
      · have i1 := hle (X - Y) (-Y) (by omega)
        have i2 := hle (-(X - Y)) (-X) (by omega)
        rw [Int.neg_mul] at i1
        rw [Int.neg_mul, Int.neg_mul] at i2
        omega
    rcases Int.lt_or_le (X - Y) 0 with hs | hs
    · obtain ⟨r, r0, r1, e⟩ := rank_of (N := -(X - Y)) (q := n) hM hE rfl (by omega) (by omega) hn (by rw [Int.neg_mul]; exact hb.2)
      refine ⟨r, r0, r1, fun h => ?_, fun _ => by rw [← e, Int.neg_mul]⟩
      have := Int.mul_neg_of_neg_of_pos hs hp
      omega
    · obtain ⟨r, r0, r1, e⟩ := rank_of (N := X - Y) (q := n) hM hE rfl hs (by omega) hn hb.1
      refine ⟨r, r0, r1, fun _ => e, fun h => ?_⟩
      have := Int.mul_nonneg hs (Int.le_of_lt hp)
      omega
  rw [← hM]
  have sx : ∀ z : Int, sgm (F.sgn x) z = z ∨ sgm (F.sgn x) z = -z := fun z => by unfold sgm; split <;> simp
  have sy : ∀ z : Int, sgm (F.sgn y) z = z ∨ sgm (F.sgn y) z = -z := fun z => by unfold sgm; split <;> simp
  have lift : ∀ (i l : Nat) (b : Bool) (m : Int), i ≤ l → ∃ Z : Int, sgm b (m * sc 1 (l - 1074)) = Z * sc 1 (i - 1074) := fun i l b m hil => by
    have e : sc 1 (l - 1074) = 2 ^ (l - i) * sc 1 (i - 1074) := by
      rw [← sc_mul1, sc_two _ _ (by omega)]
      congr 1; omega
    rw [e, ← Int.mul_assoc]
    cases b
    · exact ⟨m * 2 ^ (l - i), by simp [sgm]⟩
    · exact ⟨-(m * 2 ^ (l - i)), by simp [sgm, Int.neg_mul]⟩
  rcases Nat.le_total k j with hkj | hkj
  · obtain ⟨Y, hY⟩ := lift k j (F.sgn y) q hkj
    obtain ⟨X, hX⟩ := lift k k (F.sgn x) p (Nat.le_refl _)
    exact key k _ rfl ⟨X, Y, p, by rw [ex, hX], by rw [ey, hY], p1, p0, .inl (by rw [ex]; exact sx _)⟩
  · obtain ⟨X, hX⟩ := lift j k (F.sgn x) p hkj
    obtain ⟨Y, hY⟩ := lift j j (F.sgn y) q (Nat.le_refl _)
    exact key j _ rfl ⟨X, Y, q, by rw [ex, hX], by rw [ey, hY], q1, q0, .inr (by rw [ey]; exact sy _)⟩
theorem ster_p {x y mode : Int} (hm : 0 ≤ mode ∧ mode ≤ 4) (hx : fi x) (hy : fi y) (h : (0 ≤ val y ∧ val y ≤ 2 * val x ∧ val x ≤ 2 * val y) ∨ (val y ≤ 0 ∧ 2 * val y ≤ val x ∧ 2 * val x ≤ val y)) :
    (AT [x, F.neg y] mode).2.1 = false ∧ fi (AT [x, F.neg y] mode).1 ∧ val (AT [x, F.neg y] mode).1 = val x - val y ∧ (AT [x, F.neg y] mode).2.2 = 0 := by
  have hf := f2 hx (fi_neg hy)
  have a := AT_fin hm (by simp) hf
  have t := tot_ok hf (by simp)
  have v1 : vs [x, F.neg y] = val x - val y := by simp [vs, val_neg hy]; omega
  by_cases h0 : vs [x, F.neg y] = 0
  · rw [a.1 h0]
    have z0 : fi 0 ∧ val 0 = 0 := by
      have f0 : fi 0 := fi_of (by omega) (by omega) (by omega)
      refine ⟨f0, ?_⟩
      rw [val_eq f0, show (0 : Int) % 9223372036854775808 = 0 by decide, U_zero]; rfl
    have z1 : fi 9223372036854775808 ∧ val 9223372036854775808 = 0 := by
      have f0 : fi 9223372036854775808 := fi_of (by omega) (by omega) (by omega)
      refine ⟨f0, ?_⟩
      rw [val_eq f0, show (9223372036854775808 : Int) % 9223372036854775808 = 0 by decide, U_zero]; rfl
    refine ⟨rfl, ?_, ?_, rfl⟩
    · dsimp only
      rcases ZR_zero mode hf h0 with e | e
      · rw [e]; exact z0.1
      · rw [e]; exact z1.1
    · dsimp only
      rcases ZR_zero mode hf h0 with e | e
      · rw [e, z0.2]; omega
      · rw [e, z1.2]; omega
  · rw [a.2 h0]
    obtain ⟨r, r0, r1, hr⟩ := ster_rank hx hy h
    have ab := A_abs (tot [x, F.neg y] dz)
    have eA : A (tot [x, F.neg y] dz) = U r := by
      rw [t.2, v1] at ab
      rcases Int.lt_or_le (val x - val y) 0 with hs | hs
      · rw [(ab.2 hs).1]; exact hr.2 hs
      · rw [(ab.1 hs).1]; exact hr.1 hs
    obtain ⟨e1, e2, e3⟩ := exact_p hm t.1 r0 r1 eA
    exact ⟨e1, e2, by rw [e3, t.2, v1], rfl⟩
/-- once -/
theorem once_p {L : List Int} {x mode : Int} (hu : u64s L) (hx : fi x) (he : (AT L mode).2.2 = 0) :
    ((AT (L.reverse ++ [x, F.neg x]) mode).2.2 = 2 ∧ 200 < (L.reverse ++ [x, F.neg x]).length) ∨ ((AT (L.reverse ++ [x, F.neg x]) mode).2.2 = 0 ∧ (AT (L.reverse ++ [x, F.neg x]) mode).2.1 = (AT L mode).2.1 ∧ ((AT (L.reverse ++ [x, F.neg x]) mode).1 = (AT L mode).1 ∨ F.cls (AT (L.reverse ++ [x, F.neg x]) mode).1 = 1 ∧ F.cls (AT L mode).1 = 1)) := by
  have hm : 0 ≤ mode ∧ mode ≤ 4 := by
    rcases Classical.em (0 ≤ mode ∧ mode ≤ 4) with h | h
    · exact h
    · rw [AT_no h] at he; cases he
  have hl : ¬ 200 < L.length := fun h => by rw [AT_large hm h] at he; cases he
  have fn := fi_neg hx
  obtain ⟨R, hR⟩ : ∃ R, L.reverse ++ [x, F.neg x] = R := ⟨_, rfl⟩
  rw [hR]
  have huR : u64s R := by
    intro z hz
    rw [← hR] at hz
    simp only [List.mem_append, List.mem_reverse, List.mem_cons, List.not_mem_nil, or_false] at hz
    rcases hz with hz | rfl | rfl
    · exact hu z hz
    · exact ⟨hx.1, hx.2.1⟩
    · exact ⟨fn.1, fn.2.1⟩
  by_cases hl2 : 200 < R.length
  · exact .inl ⟨by rw [AT_large hm hl2], hl2⟩
  · right
    have nfi : ∀ y, fi y → F.cls y ≠ 5 ∧ (y == 9218868437227405312) = false ∧ (y == 18442240474082181120) = false := fun y hy => by
      have := fi_mod hy
      refine ⟨(cls_fi.2 hy.2.2).1, ?_, ?_⟩ <;> rw [beq_eq_false_iff_ne] <;> rintro rfl <;> simp at this
    have n1 := nfi x hx
    have n2 := nfi _ fn
    have eN : hN R = hN L := by rw [← hR]; simp [hN, n1.1, n2.1]
    have eP : hP R = hP L := by rw [← hR]; unfold hP; rw [List.any_append, List.any_reverse]; simp only [List.any_cons, List.any_nil, n1.2.1, n2.2.1, Bool.or_false]
    have eM : hM R = hM L := by rw [← hR]; unfold hM; rw [List.any_append, List.any_reverse]; simp only [List.any_cons, List.any_nil, n1.2.2, n2.2.2, Bool.or_false]
    by_cases hf : ∀ z ∈ L, fi z
    · have hfR : ∀ z ∈ R, fi z := by
        intro z hz
        rw [← hR] at hz
        simp only [List.mem_append, List.mem_reverse, List.mem_cons, List.not_mem_nil, or_false] at hz
        rcases hz with hz | rfl | rfl
        · exact hf z hz
        · exact hx
        · exact fn
      have ev : vs R = vs L := by
        rw [← hR, vs_append, vs_reverse]
        simp [vs, val_neg hx]
        omega
      have a := AT_fin hm hl hf
      have b := AT_fin hm hl2 hfR
      by_cases h0 : vs L = 0
      · rw [a.1 h0, b.1 (ev.trans h0)]
        exact ⟨rfl, rfl, .inr ⟨(ZR_cls mode hfR (ev.trans h0)).1, (ZR_cls mode hf h0).1⟩⟩
      · rw [a.2 h0, b.2 (by rw [ev]; exact h0)]
        have t1 := tot_ok hf hl
        have t2 := tot_ok hfR hl2
        have e : tot R dz = tot L dz := S_inj t2.1 t1.1 (by rw [t1.2, t2.2, ev])
        rw [e]
        exact ⟨rfl, rfl, .inl rfl⟩
    · have hfR : ¬ ∀ z ∈ R, fi z := fun h => hf fun z hz => h z (by rw [← hR]; simp [hz])
      rw [AT_wv hm hl hu hf, AT_wv hm hl2 huR hfR, eN, eP, eM]
      exact ⟨rfl, rfl, .inl rfl⟩
end SC
end Go.Proofs.YtejglcpiihkenaaGreatDoor

/-
  Package sum: checkMode, isZero, withoutValue, allSame, zero.
-/
namespace Go.Proofs.YtejglcpiihkenaaGreatDoor
set_option linter.unusedVariables false
set_option linter.unusedSimpArgs false
open Go.RowKit
set_option linter.unusedVariables false
set_option linter.unusedSimpArgs false
namespace SC
open L NC NK DC RC
theorem checkMode_c (mode : Int) (w : World) (hT : TabD w) : Calls Tryz.prog 72 #[.int .i64 mode] w (DC.RetB w (.int .i64 (if 0 ≤ mode ∧ mode ≤ 4 then 0 else 1))) := by
  have TO := Lib.hid (To_d (.agg #[.bool false, .slice none 0 0, .int .i64 0]) dz mode w (GV.zero w).dv hT)
  have e : TE dz mode = if 0 ≤ mode ∧ mode ≤ 4 then 0 else 1 := by unfold TE; rw [if_neg (by simp [dz])]
  rw [e] at TO
  clear e hT
  generalize (if 0 ≤ mode ∧ mode ≤ 4 then 0 else 1 : Int) = E at *
  generalize TX dz mode = x at *
  generalize TL dz mode = l at *
  go_enter Tryz.func72, Tryz.ntmps72
  go_wp2_with (go_at_call 55; (with_reducible refine (TO.out).mono ?_); rintro e w1 ⟨rfl, hb⟩)
  go_ret
  exact ⟨rfl, hb⟩
theorem isZero_c (b : Bool) (A : Option Addr) (n c : Nat) (x : Int) (w : World) : Calls Tryz.prog 75 #[.agg #[.bool b, .slice A n c, .int .i64 x]] w (DC.RetB w (.bool (decide (n = 0)))) := by
  go_enter Tryz.func75, Tryz.ntmps75
  go_wp2
  go_ret
  exact ⟨ret_bool (by by_cases h : n = 0 <;> simp [h]), (Below.refl _ _).alloc (Nat.le_refl _) _⟩
theorem wv_drop {L : List Int} {k : Nat} {s : Int} {f : Bool} {x : Int} (hk : k < L.length) (hx : L.getD k 0 = x) : wv (L.drop k) s f = if F.cls x = 5 then (9221120237041090560, true) else if F.cls x = 4 then (if f = true ∧ x ≠ s then (9221120237041090560, true) else wv (L.drop (k + 1)) x true) else wv (L.drop (k + 1)) s f := by
  rw [List.drop_eq_getElem_cons hk]
  have e : L[k] = x := by rw [← hx, List.getD_eq_getElem?_getD, List.getElem?_eq_getElem hk]; rfl
  rw [e]; rfl
theorem u64s_at {L : List Int} (h : u64s L) (k : Nat) : 0 ≤ L.getD k 0 ∧ L.getD k 0 ≤ 18446744073709551615 := by
  by_cases hk : k < L.length
  · rw [List.getD_eq_getElem?_getD, List.getElem?_eq_getElem hk]; exact h _ (List.getElem_mem hk)
  · rw [List.getD_eq_getElem?_getD, List.getElem?_eq_none (by omega)]; simp
theorem withoutValue_c (A : Option Addr) (n c : Nat) (L : List Int) (w : World) (hs : Sl .u64 w (.slice A n c) L) (hu : u64s L) (hl : L.length ≤ 200) :
    Calls Tryz.prog 73 #[.slice A n c] w fun e w' => e = .returned (.tuple #[.int .u64 (wv L 0 false).1, .bool (wv L 0 false).2]) ∧ w = w' := by
  have HS := Lib.hid hs
  obtain ⟨A', c', e, hc, hcell⟩ := hs.open_
  injection e with e1 e2 e3
  subst e1
  subst e3
  rw [← e2] at hl hc
  have HN := Lib.hid e2
  have HU := Lib.hid hu
  obtain ⟨R, hR⟩ : ∃ R, wv L 0 false = R := ⟨_, rfl⟩
  rw [hR]
  have HR := Lib.hid hR
  clear e2 hcell hs hu hR
  go_enter Tryz.func73, Tryz.ntmps73
  go_wp2
  go_loop [10, 4, 5] (fun iv sv fv => ∃ (k : Nat) (s : Int) (f : Bool), iv = .int .i64 k ∧ k ≤ n ∧ sv = .int .u64 s ∧ fv = .bool f ∧ Hid (wv (L.drop k) s f = R)) (fun iv _ _ => n - (intOf iv).toNat)
  case atStart => exact ⟨0, 0, false, rfl, by omega, rfl, rfl, HR.out⟩
  case round =>
    obtain ⟨k, s, f, rfl, hk, rfl, rfl, hr⟩ := hrel
    by_cases hkn : k < n
    · obtain ⟨ad, c', e, hc', hb, hcell⟩ := HS.out.at_ k (by rw [← HN.out]; exact hkn)
      injection e with e1 e2 e3
      subst e1
      clear e2 e3 hc' c' hb
      obtain ⟨x, hx⟩ : ∃ x, L.getD k 0 = x := ⟨_, rfl⟩
      have hb := u64s_at HU.out k
      have hd := wv_drop (s := s) (f := f) (by rw [← HN.out]; exact hkn) hx
      rw [hr.out] at hd
      rw [hx] at hcell hb
      have CL : Hid (∀ W : World, Calls Tryz.prog 77 #[.int .u64 x] W fun e w' => e = .returned (.int .i64 (F.cls x)) ∧ W = w') := fun W => FloatC.Class_c x hb.1 hb.2 W
      clear hx hb
      by_cases h5 : F.cls x = 5
      · rw [if_pos h5] at hd
        have t5 : (F.cls x == 5) = true := by rw [h5]; rfl
        subst hd
        generalize F.cls x = K at *
        clear h5
        go_wp2_with (first | (go_at_call 77; (with_reducible refine (CL.out _).mono ?_); rintro e w1 ⟨rfl, rfl⟩))
        go_ret2
        exact ⟨rfl, rfl⟩
      · rw [if_neg h5] at hd
        have t5 : (F.cls x == 5) = false := by rw [beq_eq_false_iff_ne]; exact h5
        by_cases h4 : F.cls x = 4
        · rw [if_pos h4] at hd
          have t4 : (F.cls x == 4) = true := by rw [h4]; rfl
          by_cases hf : f = true ∧ x ≠ s
          · rw [if_pos hf] at hd
            obtain ⟨rfl, hxs⟩ := hf
            have tx : (x != s) = true := by simp [hxs]
            subst hd
            generalize F.cls x = K at *
            clear h5 h4 hxs
            go_wp2_with (first | (go_at_call 77; (with_reducible refine (CL.out _).mono ?_); rintro e w1 ⟨rfl, rfl⟩))
            go_ret2
            exact ⟨rfl, rfl⟩
          · rw [if_neg hf] at hd
            have HD := Lib.hid hd.symm
            have tf : f = false ∨ (f = true ∧ (x != s) = false) := by
              cases f
              · exact .inl rfl
              · right; refine ⟨rfl, ?_⟩
                rcases Classical.em (x = s) with h | h
                · simp [h]
                · exact absurd ⟨rfl, h⟩ hf
            generalize F.cls x = K at *
            clear h5 h4 hf hd
            rcases tf with rfl | ⟨rfl, tx⟩
            all_goals (
              go_wp2_with (first | (go_at_call 77; (with_reducible refine (CL.out _).mono ?_); rintro e w1 ⟨rfl, rfl⟩))
              go_round
              case rel => exact ⟨k + 1, x, true, by go_num, by omega, rfl, rfl, HD.out⟩
              case measure => simp [intOf]; omega)
        · rw [if_neg h4] at hd
          have t4 : (F.cls x == 4) = false := by rw [beq_eq_false_iff_ne]; exact h4
          have HD := Lib.hid hd.symm
          generalize F.cls x = K at *
          clear h5 h4 hd
          go_wp2_with (first | (go_at_call 77; (with_reducible refine (CL.out _).mono ?_); rintro e w1 ⟨rfl, rfl⟩))
          go_round
          case rel => exact ⟨k + 1, s, f, by go_num, by omega, rfl, rfl, HD.out⟩
          case measure => simp [intOf]; omega
    · have hkn2 : k = n := by omega
      subst hkn2
      have he : wv (L.drop k) s f = (s, f) := by rw [HN.out, List.drop_length]; rfl
      rw [hr.out] at he
      subst he
      go_wp2
      go_ret2
      exact ⟨rfl, rfl⟩
theorem clo_c (x y : Int) (ad : Addr) (n c B : Nat) (w : World) (hB : w.cell? ⟨B, 0, none⟩ = some (.slice (some ad) n c)) (h0 : 0 < n) (hy : w.cell? (ad.add 0) = some (.int .u64 y)) :
    Calls Tryz.prog 117 #[.int .u64 x, .pointer (some ⟨B, 0, none⟩)] w fun e w' => e = .returned (.bool (x != y)) ∧ w = w' := by
  have hy2 : w.cell? ad = some (.int .u64 y) := by simpa [Addr.add] using hy
  go_enter Tryz.func117, Tryz.ntmps117
  go_wp2
  go_ret
  exact ⟨rfl, rfl⟩
/-- the first place where the closure says yes -/
theorem IndexFunc_c (A : Option Addr) (n c : Nat) (L : List Int) (B : Nat) (w : World) (hs : Sl .u64 w (.slice A n c) L) (hB : w.cell? ⟨B, 0, none⟩ = some (.slice A n c)) (hl : L.length ≤ 200) (h0 : 0 < n) :
    Calls Tryz.prog 127 #[.slice A n c, .func (.func 117) #[] #[.pointer (some ⟨B, 0, none⟩)]] w fun e w' => ∃ r : Int, e = .returned (.int .i64 r) ∧ decide (r ≥ 0) = !sm L ∧ w = w' := by
  have HS := Lib.hid hs
  obtain ⟨A', c', e, hc, hcell⟩ := hs.open_
  injection e with e1 e2 e3
  subst e1
  subst e3
  rw [← e2] at hl hc
  have HN := Lib.hid e2
  obtain ⟨ad, rfl, hbl, hc0⟩ := hcell 0 (by rw [← e2]; exact h0)
  obtain ⟨y, hy⟩ : ∃ y, L.getD 0 0 = y := ⟨_, rfl⟩
  rw [hy] at hc0
  have eS : sm L = L.all fun x => x == y := by
    unfold sm
    have : L.headD 0 = y := by rw [← hy]; cases L <;> rfl
    rw [this]
  obtain ⟨R, hR⟩ : ∃ R, sm L = R := ⟨_, rfl⟩
  rw [hR] at eS ⊢
  have HR := Lib.hid eS
  have CC : Hid (∀ x : Int, Calls Tryz.prog 117 #[.int .u64 x, .pointer (some ⟨B, 0, none⟩)] w fun e w' => e = .returned (.bool (x != y)) ∧ w = w') := fun x => clo_c x y ad n c B w hB h0 hc0
  clear e2 hcell hs hR hy eS hB hc0
  go_enter Tryz.func127, Tryz.ntmps127
  go_wp2
  go_loop [8] (fun iv => ∃ k : Nat, iv = .int .i64 k ∧ k ≤ n ∧ Hid (∀ x ∈ L.take k, x = y)) (fun iv => n - (intOf iv).toNat)
  case atStart => exact ⟨0, rfl, by omega, by intro x hx; simp at hx⟩
  case round =>
    obtain ⟨k, rfl, hk, hr⟩ := hrel
    by_cases hkn : k < n
    · obtain ⟨ad2, c', e, hc', hb, hcell⟩ := HS.out.at_ k (by rw [← HN.out]; exact hkn)
      injection e with e1 e2 e3
      obtain rfl := Option.some.inj e1
      clear e2 e3 hc' c' hb e1
      obtain ⟨x, hx⟩ : ∃ x, L.getD k 0 = x := ⟨_, rfl⟩
      have hx2 : L[k]? = some x := by
        rw [List.getD_eq_getElem?_getD] at hx
        rw [List.getElem?_eq_getElem (by rw [← HN.out]; exact hkn)] at hx ⊢
        rw [← hx]; rfl
      have HX2 := Lib.hid hx2
      rw [hx] at hcell
      clear hx hx2
      by_cases he : x = y
      · have tx : (x != y) = false := by simp [he]
        have HE := Lib.hid he
        clear he
        go_wp2_with (go_at_call 117; (with_reducible refine (CC.out _).mono ?_); rintro e w1 ⟨rfl, rfl⟩)
        go_round
        case rel => exact ⟨k + 1, by go_num, by omega, by
          intro z hz
          rw [List.take_add_one, HX2.out] at hz
          simp at hz
          rcases hz with hz | rfl
          · exact hr.out z hz
          · exact HE.out⟩
        case measure => simp [intOf]; omega
      · have tx : (x != y) = true := by simp [he]
        have HE := Lib.hid he
        clear he
        go_wp2_with (go_at_call 117; (with_reducible refine (CC.out _).mono ?_); rintro e w1 ⟨rfl, rfl⟩)
        go_ret
        refine ⟨_, rfl, ?_, rfl⟩
        have hR : R = false := by
          rw [HR.out, List.all_eq_false]
          refine ⟨x, List.mem_of_getElem? HX2.out, ?_⟩
          simpa using HE.out
        rw [hR]
        simp
    · have hkn2 : k = n := by omega
      subst hkn2
      have hR : R = true := by
        rw [HR.out, List.all_eq_true]
        intro x hx
        have := hr.out x (by rw [HN.out, List.take_length]; exact hx)
        simp [this]
      go_wp2
      go_ret
      exact ⟨_, rfl, by first | decide | (rw [hR]; decide), rfl⟩
theorem ContainsFunc_c (A : Option Addr) (n c : Nat) (L : List Int) (B : Nat) (w : World) (hs : Sl .u64 w (.slice A n c) L) (hB : w.cell? ⟨B, 0, none⟩ = some (.slice A n c)) (hl : L.length ≤ 200) (h0 : 0 < n) :
    Calls Tryz.prog 116 #[.slice A n c, .func (.func 117) #[] #[.pointer (some ⟨B, 0, none⟩)]] w fun e w' => e = .returned (.bool (!sm L)) ∧ w = w' := by
  have IF := Lib.hid (IndexFunc_c A n c L B w hs hB hl h0)
  obtain ⟨R, hR⟩ : ∃ R, sm L = R := ⟨_, rfl⟩
  rw [hR] at IF ⊢
  clear hs hB hl h0 hR
  go_enter Tryz.func116, Tryz.ntmps116
  go_wp2_with (go_at_call 127; (with_reducible refine (IF.out).mono ?_); rintro e w1 ⟨r, rfl, hr, rfl⟩; have HR := Lib.hid hr; clear hr)
  go_ret
  exact ⟨ret_bool HR.out, rfl⟩
theorem allSame_c (A : Option Addr) (n c : Nat) (L : List Int) (w : World) (hs : Sl .u64 w (.slice A n c) L) (hl : L.length ≤ 200) (h0 : 0 < n) :
    Calls Tryz.prog 101 #[.slice A n c] w (DC.RetB w (.bool (sm L))) := by
  have hs2 := hs.alloc (.cells #[.slice A n c] 44)
  have D0 := al1 w (.cells #[.slice A n c] 44)
  have hB := (Blk.new w 44 #[.slice A n c]).at_ 0 rfl
  obtain ⟨W0, hW0⟩ : ∃ W0, w.alloc (.cells #[.slice A n c] 44) = W0 := ⟨_, rfl⟩
  rw [hW0] at hs2 D0 hB
  have CF := Lib.hid (ContainsFunc_c A n c L w.heap.size W0 hs2 hB hl h0)
  have HW0 := Lib.hid hW0
  have D0 := Lib.hid D0
  obtain ⟨R, hR⟩ : ∃ R, sm L = R := ⟨_, rfl⟩
  rw [hR] at CF ⊢
  clear hs hs2 hW0 hR hl
  go_enter Tryz.func101, Tryz.ntmps101
  go_wp2_with (go_at_call 116; rw [HW0.out]; (with_reducible refine (CF.out).mono ?_); rintro e w1 ⟨rfl, rfl⟩)
  go_ret
  exact ⟨ret_bool (by simp), D0.out⟩
theorem zero_c (A : Option Addr) (n c : Nat) (L : List Int) (mode : Int) (w : World) (hs : Sl .u64 w (.slice A n c) L) (hl : L.length ≤ 200) :
    Calls Tryz.prog 76 #[.slice A n c, .int .i64 mode] w (DC.RetB w (.int .u64 (ZR L mode))) := by
  obtain ⟨A', c', e, hc, hcell⟩ := hs.open_
  injection e with e1 e2 e3
  subst e1
  subst e3
  unfold ZR
  by_cases h0 : L = []
  · rw [if_pos h0]
    have hn : n = 0 := by rw [e2, h0]; rfl
    clear hcell hs e2 hc
    subst hn
    go_enter Tryz.func76, Tryz.ntmps76
    go_wp2
    go_ret
    exact ⟨rfl, Below.refl _ _⟩
  · rw [if_neg h0]
    have hn : 0 < n := by rw [e2]; exact List.length_pos_iff.2 h0
    have AS := Lib.hid (allSame_c A n c L w hs hl hn)
    obtain ⟨ad, rfl, hbl, hc0⟩ := hcell 0 (by rw [← e2]; exact hn)
    have hy : L.getD 0 0 = L.headD 0 := by cases L <;> rfl
    rw [hy] at hc0
    obtain ⟨y, hy⟩ : ∃ y, L.headD 0 = y := ⟨_, rfl⟩
    rw [hy] at hc0 ⊢
    rw [← e2] at hl
    obtain ⟨R, hR⟩ : ∃ R, sm L = R := ⟨_, rfl⟩
    rw [hR] at AS ⊢
    have hn0 : (n : Int) ≠ 0 := by omega
    have K0 : Hid (∀ W, Below w.heap.size w W → W.cell? ad = some (.int .u64 y)) := fun W hW => by
      have h9 : w.cell? ad = some (.int .u64 y) := by simpa [Addr.add] using hc0
      exact (hW.cell hbl).trans h9
    clear hcell hs hy hR h0 hc0 e2
    cases R
    · rw [if_neg (by simp)]
      by_cases hm : mode = 2
      · subst hm
        rw [if_pos rfl]
        go_enter Tryz.func76, Tryz.ntmps76
        go_wp2_with (go_at_call 101; (with_reducible refine (AS.out).mono ?_); rintro e w1 ⟨rfl, hb⟩; have hb := Lib.hid hb)
        go_ret
        exact ⟨rfl, hb.out⟩
      · rw [if_neg hm]
        have tm : (mode == 2) = false := by simp [hm]
        clear hm
        go_enter Tryz.func76, Tryz.ntmps76
        go_wp2_with (go_at_call 101; (with_reducible refine (AS.out).mono ?_); rintro e w1 ⟨rfl, hb⟩; have hb := Lib.hid hb)
        go_ret
        exact ⟨rfl, hb.out⟩
    · rw [if_pos rfl]
      go_enter Tryz.func76, Tryz.ntmps76
      go_wp2_with (go_at_call 101; (with_reducible refine (AS.out).mono ?_); rintro e w1 ⟨rfl, hb⟩; have k0 := K0.out _ hb; have hb := Lib.hid hb)
      go_ret
      exact ⟨rfl, hb.out⟩
end SC
end Go.Proofs.YtejglcpiihkenaaGreatDoor

/-
  Package sum: exact.
-/
namespace Go.Proofs.YtejglcpiihkenaaGreatDoor
set_option linter.unusedVariables false
set_option linter.unusedSimpArgs false
open Go.RowKit
set_option linter.unusedVariables false
set_option linter.unusedSimpArgs false
namespace SC
open L NC NK DC RC
theorem tot_append (a b : List Int) (d : Dy) : tot (a ++ b) d = tot b (tot a d) := by
  induction a generalizing d with
  | nil => rfl
  | cons x t ih => simp only [List.cons_append, tot]; exact ih _
theorem tot_succ {L : List Int} {k : Nat} {x : Int} (hx : L[k]? = some x) (d : Dy) : tot (L.take (k + 1)) d = (DC.Add (tot (L.take k) d) (OfD x).d).d := by
  rw [List.take_add_one, hx, tot_append]; rfl
/-- a Dyad told by value -/
def RetG (w : World) (d : Dy) (e : Ending) (w' : World) : Prop := ∃ b A n c x, e = .returned (.agg #[.bool b, .slice A n c, .int .i64 x]) ∧ GV w' b A n c x d ∧ Below w.heap.size w w'
/-- behind both allocations -/
theorem two0 (w : World) : ∃ W0, (w.alloc (.cells #[.bool false, .slice none 0 0, .int .i64 0] 60)).alloc (.cells #[.bool false, .slice none 0 0, .int .i64 0] 60) = W0 ∧ Below w.heap.size w W0 ∧ W0.heap.size = w.heap.size + 2 ∧
    Blk W0 w.heap.size 60 #[.bool false, .slice none 0 0, .int .i64 0] ∧ Blk W0 (w.heap.size + 1) 60 #[.bool false, .slice none 0 0, .int .i64 0] := by
  refine ⟨_, rfl, (al1 w _).trans ((al1 _ _).mono (by simp)), by simp, (Blk.new w _ _).alloc _, ?_⟩
  have := Blk.new (w.alloc (.cells #[.bool false, .slice none 0 0, .int .i64 0] 60)) 60 #[.bool false, .slice none 0 0, .int .i64 0]
  rwa [show (w.alloc (.cells #[.bool false, .slice none 0 0, .int .i64 0] 60)).heap.size = w.heap.size + 1 by simp] at this
/-- what the loop of exact keeps: the result's cell, the total, its value -/
structure EX (w W : World) (b : Bool) (A : Option Addr) (n c : Nat) (x : Int) (d : Dy) : Prop where
  r : Blk W w.heap.size 60 #[.bool false, .slice none 0 0, .int .i64 0]
  t : Blk W (w.heap.size + 1) 60 #[.bool b, .slice A n c, .int .i64 x]
  g : GV W b A n c x d
  b : Below w.heap.size w W
theorem EX.size {w W : World} {b A n c x d} (h : EX w W b A n c x d) : w.heap.size + 1 < W.heap.size := h.t.lt
theorem EX.below {w W W' : World} {b A n c x d} (h : EX w W b A n c x d) (hb : Below W.heap.size W W') : EX w W' b A n c x d :=
  ⟨h.r.below hb (by have := h.size; omega), h.t.below hb h.size, h.g.below hb, h.b.trans (hb.mono h.b.size)⟩
theorem EX.set {w W : World} {b A n c x d b' A' n' c' x' d'} (h : EX w W b A n c x d) (g : GV W b' A' n' c' x' d') :
    EX w (((W.setCell ⟨w.heap.size + 1, 0, none⟩ (.bool b')).setCell ⟨w.heap.size + 1, 1, none⟩ (.slice A' n' c')).setCell ⟨w.heap.size + 1, 2, none⟩ (.int .i64 x')) b' A' n' c' x' d' := by
  refine ⟨?_, Blk3 h.t _ _ _, g.set3 h.t _ _ _ (by intro z h; cases h) (by intro z h; cases h), below3 h.b (by omega) _ _ _⟩
  exact ((h.r.far (by simp) _).far (by simp) _).far (by simp) _
set_option maxRecDepth 100000 in
theorem exact_c (A : Option Addr) (n c : Nat) (L : List Int) (w : World) (hs : Sl .u64 w (.slice A n c) L) (hf : ∀ x ∈ L, fi x) (hl : L.length ≤ 200) (hT : TabD w) :
    Calls Tryz.prog 74 #[.slice A n c] w (RetG w (tot L dz)) := by
  have HS : Hid (∀ W, Below w.heap.size w W → Sl .u64 W (.slice A n c) L) := fun W hW => hs.below hW
  obtain ⟨A', c', e, hc, hcell⟩ := hs.open_
  injection e with e1 e2 e3
  subst e1
  subst e3
  rw [← e2] at hl hc
  have HN := Lib.hid e2
  have HF := Lib.hid hf
  have OF : Hid (∀ (W : World) (x : Int), fi x → Below w.heap.size w W → Calls Tryz.prog 38 #[.int .u64 x] W (RetD W (OfD x))) := fun W x hx hW => Of_d x hx.1 hx.2.1 W (hT.below hW)
  have AD : Hid (∀ (W : World) (u v : Value) (d1 d2 : Dy), DV W u d1 → DV W v d2 → Below w.heap.size w W → Calls Tryz.prog 56 #[u, v] W (RetD W (DC.Add d1 d2))) := fun W u v d1 d2 h1 h2 hW => Add_d u v d1 d2 W h1 h2 (hT.below hW)
  obtain ⟨W0, hW0, D0, SZ, R0, T0⟩ := two0 w
  have E0 : Hid (EX w W0 false none 0 0 0 dz) := ⟨R0, T0, GV.zero _, D0⟩
  have HW0 := Lib.hid hW0
  clear e2 hcell hs hf hT hW0 D0 SZ R0 T0
  go_enter Tryz.func74, Tryz.ntmps74
  go_wp2
  rw [HW0.out]
  go_loopw [10] (fun iv wr => ∃ (k : Nat) (b : Bool) (A' : Option Addr) (n' c' : Nat) (x' : Int), iv = .int .i64 k ∧ k ≤ n ∧ Hid (EX w wr b A' n' c' x' (tot (L.take k) dz))) (fun iv _ => n - (intOf iv).toNat)
  case atStart => exact ⟨0, _, _, _, _, _, rfl, by omega, E0.out⟩
  case round =>
    obtain ⟨k, bt, At, nt, ct, xt, rfl, hk, hE⟩ := hrel
    by_cases hkn : k < n
    · obtain ⟨ad, c', e, hc', hb, hcell⟩ := (HS.out _ hE.out.b).at_ k (by rw [← HN.out]; exact hkn)
      injection e with e1 e2 e3
      subst e1
      clear e2 e3 hc' c' hb
      obtain ⟨x, hx⟩ : ∃ x, L.getD k 0 = x := ⟨_, rfl⟩
      have hx2 : L[k]? = some x := by
        rw [List.getD_eq_getElem?_getD] at hx
        rw [List.getElem?_eq_getElem (by rw [← HN.out]; exact hkn)] at hx ⊢
        rw [← hx]; rfl
      have hfx : fi x := HF.out x (List.mem_of_getElem? hx2)
      have hd := tot_succ hx2 dz
      rw [hx] at hcell
      have HD := Lib.hid hd
      have HX := Lib.hid hfx
      obtain ⟨dt, hdt⟩ : ∃ dt, tot (L.take k) dz = dt := ⟨_, rfl⟩
      rw [hdt] at hE HD
      clear hx hx2 hfx hd hdt
      go_wp2_with (first
        | (go_at_call 38; (with_reducible refine (OF.out _ _ HX.out hE.out.b).mono ?_); rintro e w2 ⟨b2, A2, n2, c2, x2, rfl, hv2, hb2⟩; have s := hb2.alloc hb2.size (.cells #[.bool b2, .slice A2 n2 c2, .int .i64 x2] 60); have X2 := BD.new hv2.dv; have E2 := hE.out.below s; clear hv2 hb2 s; obtain ⟨q0, q1, q2⟩ := X2.bx; have p0 := E2.t.at_ 0 rfl; have p1 := E2.t.at_ 1 rfl; have p2 := E2.t.at_ 2 rfl; have E2 := Lib.hid E2)
        | (go_at_call 56; (with_reducible refine (AD.out _ _ _ _ _ E2.out.g.dv X2.dv E2.out.b).mono ?_); rintro e w3 ⟨b3, A3, n3, c3, x3, rfl, hv3, hb3⟩; have E3 := E2.out.below hb3; have p0 := E3.t.at_ 0 rfl; have p1 := E3.t.at_ 1 rfl; have p2 := E3.t.at_ 2 rfl; have f0 := E3.t.frozen 0; have f1 := E3.t.frozen 1; have f2 := E3.t.frozen 2; have E4 := Lib.hid (E3.set hv3); clear E3 hv3 hb3))
      go_roundw
      case rel => exact ⟨k + 1, _, _, _, _, _, by go_num, by omega, by rw [HD.out]; exact E4.out⟩
      case measure => simp [intOf]; omega
    · have hkn2 : k = n := by omega
      subst hkn2
      have he : L.take k = L := by rw [HN.out, List.take_length]
      rw [he] at hE
      have p0 := hE.out.t.at_ 0 rfl
      have p1 := hE.out.t.at_ 1 rfl
      have p2 := hE.out.t.at_ 2 rfl
      have t0 := hE.out.r.at_ 0 rfl
      have t1 := hE.out.r.at_ 1 rfl
      have t2 := hE.out.r.at_ 2 rfl
      have f0 := hE.out.r.frozen 0
      have f1 := hE.out.r.frozen 1
      have f2 := hE.out.r.frozen 2
      clear he
      go_wp2
      exact bodyPost_ret (v := .agg #[.bool bt, .slice At nt ct, .int .i64 xt]) (by simp [results, Tryz.results74, go_sem, t0, t1, t2]) rfl
        ⟨_, _, _, _, _, rfl, hE.out.g.set3 hE.out.r _ _ _ (by intro z h; cases h) (by intro z h; cases h), below3 hE.out.b (by omega) _ _ _⟩
end SC
end Go.Proofs.YtejglcpiihkenaaGreatDoor

/-
  Package sum: All.
-/
namespace Go.Proofs.YtejglcpiihkenaaGreatDoor
set_option linter.unusedVariables false
set_option linter.unusedSimpArgs false
open Go.RowKit
set_option linter.unusedVariables false
set_option linter.unusedSimpArgs false
namespace SC
open L NC NK DC RC
/-- what All, Add and Sub tell -/
def ATv (t : Int × Bool × Int) : Value := .tuple #[.int .u64 t.1, .bool t.2.1, .int .i64 t.2.2]
set_option maxRecDepth 100000 in
theorem All_c (A : Option Addr) (n c : Nat) (L : List Int) (mode : Int) (w : World) (hs : Sl .u64 w (.slice A n c) L) (hu : u64s L) (hl : L.length ≤ 9223372036854775807) (hT : TabD w) :
    Calls Tryz.prog 50 #[.slice A n c, .int .i64 mode] w (DC.RetB w (ATv (AT L mode))) := by
  obtain ⟨A', c', e, hc, hcell⟩ := hs.open_
  injection e with e1 e2 e3
  subst e1
  subst e3
  clear hcell
  have CM := Lib.hid (checkMode_c mode w hT)
  by_cases hm : 0 ≤ mode ∧ mode ≤ 4
  · rw [if_pos hm] at CM
    by_cases h2 : 200 < n
    · rw [AT_large hm (by rw [← e2]; exact h2)]
      have h3 : (n : Int) > 200 := by omega
      rw [← e2] at hl
      unfold ATv
      clear hs hu hm hT e2 hc h2
      go_enter Tryz.func50, Tryz.ntmps50
      go_wp2_with (go_at_call 72; (with_reducible refine (CM.out).mono ?_); rintro e w1 ⟨rfl, hb⟩; have hb := Lib.hid hb)
      go_ret3
      exact ⟨rfl, hb.out⟩
    · have hn : ¬ 200 < L.length := by rw [← e2]; exact h2
      have h3 : ¬ (n : Int) > 200 := by omega
      have WVc : Hid (∀ W, Below w.heap.size w W → Calls Tryz.prog 73 #[.slice A n c] W fun e w' => e = .returned (.tuple #[.int .u64 (wv L 0 false).1, .bool (wv L 0 false).2]) ∧ W = w') := fun W hW => withoutValue_c A n c L W (hs.below hW) hu (by omega)
      by_cases hf : ∀ x ∈ L, fi x
      · have hw := (wv_fin hu).2 hf
        rw [hw] at WVc
        generalize (wv L 0 false).1 = v1 at *
        have EXc : Hid (∀ W, Below w.heap.size w W → Calls Tryz.prog 74 #[.slice A n c] W (RetG W (tot L dz))) := fun W hW => exact_c A n c L W (hs.below hW) hf (by omega) (hT.below hW)
        have ZEc : Hid (∀ W, Below w.heap.size w W → Calls Tryz.prog 76 #[.slice A n c, .int .i64 mode] W (DC.RetB W (.int .u64 (ZR L mode)))) := fun W hW => zero_c A n c L mode W (hs.below hW) (by omega)
        have TOc : Hid (∀ (W : World) (v : Value), DV W v (tot L dz) → Below w.heap.size w W → Calls Tryz.prog 55 #[v, .int .i64 mode] W (DC.RetB W (.tuple #[.int .u64 (TX (tot L dz) mode), .bool (TL (tot L dz) mode), .int .i64 0]))) := fun W v hv hW => by
          have := To_d v _ mode W hv (hT.below hW)
          have e : TE (tot L dz) mode = 0 := by
            unfold TE
            rw [if_neg (by simpa using (tot_ok hf hn).1.1), if_pos hm]
          rwa [e] at this
        have a := AT_fin hm hn hf
        have t := tot_ok hf hn
        rw [← t.2, ← S_m] at a
        rw [← e2] at hl
        obtain ⟨X, hX⟩ : ∃ X, AT L mode = X := ⟨_, rfl⟩
        rw [hX] at a ⊢
        have gz : Hid (∀ (W : World) (b : Bool) (A : Option Addr) (n c : Nat) (x : Int), GV W b A n c x (tot L dz) → (n = 0 ↔ (tot L dz).m = 0)) := fun W b A n c x h => gv_zero h
        generalize TX (tot L dz) mode = tx at *
        generalize TL (tot L dz) mode = tl at *
        generalize tot L dz = d at *
        generalize ZR L mode = z at *
        have hl2 : ¬ (200 : Int) < n := by omega
        clear hs hu hT e2 hc h2 hn hf hw t hX
        by_cases h0 : d.m = 0
        · have ax := a.1 h0
          subst ax
          unfold ATv
          have gz2 : Hid (∀ (W : World) (b : Bool) (A : Option Addr) (n c : Nat) (x : Int), GV W b A n c x d → n = 0) := fun W b A n c x h => (gz.out W b A n c x h).2 h0
          clear a gz TOc h0 hm
          go_enter Tryz.func50, Tryz.ntmps50
          go_wp2_with (first
            | (go_at_call 72; (with_reducible refine (CM.out).mono ?_); rintro e w1 ⟨rfl, hb⟩; have D := Lib.hid hb; clear hb)
            | (go_at_call 73; (with_reducible refine (WVc.out _ D.out).mono ?_); rintro e w2 ⟨rfl, rfl⟩)
            | (go_at_call 74; (with_reducible refine (EXc.out _ D.out).mono ?_); rintro e w3 ⟨b3, A3, n3, c3, x3, rfl, hv, hb⟩; obtain rfl := gz2.out _ _ _ _ _ _ hv; have s := hb.alloc hb.size (.cells #[.bool b3, .slice A3 0 c3, .int .i64 x3] 60); have Xb := BD.new hv.dv; have D := Lib.hid (D.out.trans (s.mono D.out.size)); clear hv hb s; obtain ⟨b_0, b_1, b_2⟩ := Xb.bx)
            | (go_at_call 75; (with_reducible refine (isZero_c _ _ _ _ _ _).mono ?_); rintro e w4 ⟨rfl, hb⟩; have D := Lib.hid (D.out.trans (hb.mono D.out.size)); clear hb)
            | (go_at_call 76; (with_reducible refine (ZEc.out _ D.out).mono ?_); rintro e w5 ⟨rfl, hb⟩; have D := Lib.hid (D.out.trans (hb.mono D.out.size)); clear hb))
          go_ret3
          exact ⟨rfl, D.out⟩
        · have ax := a.2 fun h => h0 (S_m.2 h)
          subst ax
          unfold ATv
          have gz2 : Hid (∀ (W : World) (b : Bool) (A : Option Addr) (n c : Nat) (x : Int), GV W b A n c x d → n ≠ 0) := fun W b A n c x h h1 => h0 ((gz.out W b A n c x h).1 h1)
          clear a gz ZEc h0 hm
          go_enter Tryz.func50, Tryz.ntmps50
          go_wp2_with (first
            | (go_at_call 72; (with_reducible refine (CM.out).mono ?_); rintro e w1 ⟨rfl, hb⟩; have D := Lib.hid hb; clear hb)
            | (go_at_call 73; (with_reducible refine (WVc.out _ D.out).mono ?_); rintro e w2 ⟨rfl, rfl⟩)
            | (go_at_call 74; (with_reducible refine (EXc.out _ D.out).mono ?_); rintro e w3 ⟨b3, A3, n3, c3, x3, rfl, hv, hb⟩; have hn3 := gz2.out _ _ _ _ _ _ hv; have hd3 : decide (n3 = 0) = false := (by simpa using hn3); have s := hb.alloc hb.size (.cells #[.bool b3, .slice A3 n3 c3, .int .i64 x3] 60); have Xb := BD.new hv.dv; have D := Lib.hid (D.out.trans (s.mono D.out.size)); clear hv hb s; obtain ⟨b_0, b_1, b_2⟩ := Xb.bx)
            | (go_at_call 75; (with_reducible refine (isZero_c _ _ _ _ _ _).mono ?_); rintro e w4 ⟨rfl, hb⟩; have Xb := Xb.below hb; have D := Lib.hid (D.out.trans (hb.mono D.out.size)); clear hb; obtain ⟨b_0, b_1, b_2⟩ := Xb.bx)
            | (go_at_call 55; (with_reducible refine (TOc.out _ _ Xb.dv D.out).mono ?_); rintro e w5 ⟨rfl, hb⟩; have D := Lib.hid (D.out.trans (hb.mono D.out.size)); clear hb))
          go_ret3
          exact ⟨rfl, D.out⟩
      · have hw : (wv L 0 false).2 = true := by
          rcases Bool.eq_false_or_eq_true (wv L 0 false).2 with h | h
          · exact h
          · exact absurd ((wv_fin hu).1 h) hf
        rw [hw] at WVc
        have eA : AT L mode = ((wv L 0 false).1, false, 0) := by
          unfold AT
          rw [if_neg (by simpa using hm), if_neg hn, if_pos hw]
        rw [eA]
        generalize (wv L 0 false).1 = v1 at *
        rw [← e2] at hl
        unfold ATv
        clear hs hu hm hT e2 hc h2 hn hf hw eA
        go_enter Tryz.func50, Tryz.ntmps50
        go_wp2_with (first
          | (go_at_call 72; (with_reducible refine (CM.out).mono ?_); rintro e w1 ⟨rfl, hb⟩; have D := Lib.hid hb; clear hb)
          | (go_at_call 73; (with_reducible refine (WVc.out _ D.out).mono ?_); rintro e w2 ⟨rfl, rfl⟩))
        go_ret3
        exact ⟨rfl, D.out⟩
  · rw [if_neg hm] at CM
    rw [AT_no hm]
    unfold ATv
    clear hs hu hm hT e2 hc
    go_enter Tryz.func50, Tryz.ntmps50
    go_wp2_with (go_at_call 72; (with_reducible refine (CM.out).mono ?_); rintro e w1 ⟨rfl, hb⟩; have hb := Lib.hid hb)
    go_ret3
    exact ⟨rfl, hb.out⟩
end SC
end Go.Proofs.YtejglcpiihkenaaGreatDoor

/-
  Package sum: Add, Sub.
-/
namespace Go.Proofs.YtejglcpiihkenaaGreatDoor
set_option linter.unusedVariables false
set_option linter.unusedSimpArgs false
open Go.RowKit
set_option linter.unusedVariables false
set_option linter.unusedSimpArgs false
namespace SC
open L NC NK DC RC
theorem Add_c (x y mode : Int) (w : World) (hx : 0 ≤ x ∧ x ≤ 18446744073709551615) (hy : 0 ≤ y ∧ y ≤ 18446744073709551615) (hT : TabD w) :
    Calls Tryz.prog 21 #[.int .u64 x, .int .u64 y, .int .i64 mode] w (DC.RetB w (ATv (AT [x, y] mode))) := by
  have D0 := al1 w (.cells #[.int .u64 x, .int .u64 y] 22)
  have hs : Sl .u64 (w.alloc (.cells #[.int .u64 x, .int .u64 y] 22)) (.slice (some ⟨w.heap.size, 0, none⟩) 2 2) [x, y] := Row.sl (k := .u64) (e := 22) (L := [x, y]) (Blk.new w 22 #[.int .u64 x, .int .u64 y]) 2 (by simp)
  obtain ⟨W0, hW0⟩ : ∃ W0, w.alloc (.cells #[.int .u64 x, .int .u64 y] 22) = W0 := ⟨_, rfl⟩
  rw [hW0] at D0 hs
  have AC := Lib.hid (All_c _ _ _ _ mode W0 hs (u2 hx hy) (by simp) (hT.below D0))
  have HW0 := Lib.hid hW0
  have D0 := Lib.hid D0
  obtain ⟨t, ht⟩ : ∃ t, AT [x, y] mode = t := ⟨_, rfl⟩
  rw [ht] at AC ⊢
  obtain ⟨t1, t2, t3⟩ := t
  unfold ATv at AC ⊢
  clear hs hW0 hT ht hx hy
  go_enter Tryz.func21, Tryz.ntmps21
  go_wp2_with (go_at_call 50; rw [HW0.out]; (with_reducible refine (AC.out).mono ?_); rintro e w1 ⟨rfl, hb⟩; have hb := Lib.hid (D0.out.trans (hb.mono D0.out.size)))
  go_ret3
  exact ⟨rfl, hb.out⟩
theorem Sub_c (x y mode : Int) (w : World) (hx : 0 ≤ x ∧ x ≤ 18446744073709551615) (hy : 0 ≤ y ∧ y ≤ 18446744073709551615) (hT : TabD w) :
    Calls Tryz.prog 51 #[.int .u64 x, .int .u64 y, .int .i64 mode] w (DC.RetB w (ATv (AT [x, F.neg y] mode))) := by
  have NC' := Lib.hid (FloatC.Neg_c y hy.1 hy.2 w)
  have AC := Lib.hid (Add_c x (F.neg y) mode w hx (F.neg_bd y hy.1 hy.2) hT)
  obtain ⟨t, ht⟩ : ∃ t, AT [x, F.neg y] mode = t := ⟨_, rfl⟩
  rw [ht] at AC ⊢
  obtain ⟨t1, t2, t3⟩ := t
  unfold ATv at AC ⊢
  generalize F.neg y = ny at *
  clear hT ht hx hy
  go_enter Tryz.func51, Tryz.ntmps51
  go_wp2_with (first
    | (go_at_call 26; (with_reducible refine (NC'.out).mono ?_); rintro e w1 ⟨rfl, rfl⟩)
    | (go_at_call 21; (with_reducible refine (AC.out).mono ?_); rintro e w1 ⟨rfl, hb⟩; have hb := Lib.hid hb))
  go_ret3
  exact ⟨rfl, hb.out⟩
end SC
end Go.Proofs.YtejglcpiihkenaaGreatDoor

/-
  Package sum: one and one, pure.
-/
namespace Go.Proofs.YtejglcpiihkenaaGreatDoor
set_option linter.unusedVariables false
set_option linter.unusedSimpArgs false
open Go.RowKit
set_option linter.unusedVariables false
set_option linter.unusedSimpArgs false
namespace SC
open L NC NK DC RC
/-- one and one -/
theorem one_one {O T : Int} (hO : O = 4607182418800017408) (hT : T = 4611686018427387904) : AT [O, O] 0 = (T, false, 0) := by
  have fO : fi O := fi_of (by omega) (by omega) (by omega)
  have hf := f2 fO fO
  obtain ⟨k, hk⟩ : ∃ k : Nat, k = 1022 := ⟨_, rfl⟩
  obtain ⟨j, hj⟩ : ∃ j : Nat, j = 1023 := ⟨_, rfl⟩
  have u1 := (U_of (k := k) (q := 4503599627370496) (by omega) (by omega) (by omega)).1
  have u2 := (U_of (k := j) (q := 4503599627370496) (by omega) (by omega) (by omega)).1
  rw [show (k : Int) * 4503599627370496 + 4503599627370496 = O by omega] at u1
  rw [show (j : Int) * 4503599627370496 + 4503599627370496 = T by omega] at u2
  have e : sc 1 (j - 1074) = 2 * sc 1 (k - 1074) := by
    have := sc_shift 1 (k - 1074) 1 (by omega)
    rw [show (1 : Int) * 2 ^ 1 = 2 by decide, sc_mul1, show (k : Int) - 1074 + (1 : Nat) = j - 1074 by omega] at this
    exact this.symm
  have hp := sc_one_pos (k - 1074)
  have v1 : val O = U O := by
    rw [val_eq fO, show F.sgn O = false from F.sgn_f (by omega), show O % 9223372036854775808 = O by omega]; rfl
  have hv : vs [O, O] = U T := by
    simp only [vs]
    rw [v1, u1, u2, e]
    omega
  have hn : vs [O, O] ≠ 0 := by rw [hv, u2, e]; omega
  rw [(AT_fin (by omega) (by simp) hf).2 hn]
  have t := tot_ok hf (by simp)
  rw [hv] at t
  have a := (A_abs (tot [O, O] dz)).1 (by rw [t.2, u2, e]; omega)
  have tw := tow_exact (r := T) (by omega) (by omega)
  rw [← t.2, ← a.1] at tw
  obtain ⟨x1, x2, -⟩ := TX_of t.1 (mode := 0) (by omega) tw
  rw [x1, x2, ry_none, a.2]
  unfold rx
  simp
theorem tow_bit {a r u0 u9 e0 E : Int} (h0 : U r = u0) (h9 : U (r + 1) = u9) (r0 : 0 ≤ r) (r1 : r ≤ 9218868437227405311) (ha : a = u0 + e0) (hp : 0 < e0) (h4 : 4 * e0 ≤ E) (hu : u9 = u0 + E) : Tow a r false true := by
  refine ⟨r0, r1, ?_, fun _ => ?_, ?_, ?_⟩
  · rw [h0]; clear h0 h9; omega
  · rw [h9]; clear h0 h9; omega
  · rw [h0, h9]; clear h0 h9; symm; rw [decide_eq_false_iff_not]; omega
  · rw [h0, h9]; clear h0 h9; symm; rw [decide_eq_true_iff]; constructor <;> omega
theorem one_more {O P : Int} (hO : O = 4607182418800017408) (hP : P = 4607182418800017409) : AT [O, 1] 1 = (P, true, 0) := by
  have fO : fi O := fi_of (by omega) (by omega) (by omega)
  have f1 : fi 1 := fi_of (by omega) (by omega) (by omega)
  have hf := f2 fO f1
  obtain ⟨k, hk⟩ : ∃ k : Nat, k = 1022 := ⟨_, rfl⟩
  obtain ⟨u1, u2⟩ := U_of (k := k) (q := 4503599627370496) (by omega) (by omega) (by omega)
  rw [show (k : Int) * 4503599627370496 + 4503599627370496 = O by omega] at u1 u2
  have u3 := (U_of (k := 0) (q := 1) (by omega) (by omega) (by omega)).1
  rw [show ((0 : Nat) : Int) * 4503599627370496 + 1 = 1 by omega, show ((0 : Nat) : Int) - 1074 = -1074 by omega, Int.one_mul] at u3
  have e : sc 1 (k - 1074) = 2 ^ k * sc 1 (-1074) := by
    rw [← sc_mul1, sc_two _ _ (by omega), show (-1074 : Int) + k = k - 1074 by omega]
  have e2 : (2 : Int) ^ k = 4 * 2 ^ (k - 2) := by
    rw [show (4 : Int) = 2 ^ 2 by decide, ← Int.pow_add]
    congr 1; omega
  have hp := sc_one_pos (-1074)
  have h4 : 4 * sc 1 (-1074) ≤ sc 1 (k - 1074) := by
    rw [e, e2, Int.mul_assoc]
    have h1 := two_pos' (k - 2)
    have := Int.mul_le_mul_of_nonneg_right (show (1 : Int) ≤ 2 ^ (k - 2) by omega) (Int.le_of_lt hp)
    omega
  have v1 : val O = U O := by
    rw [val_eq fO, show F.sgn O = false from F.sgn_f (by omega), show O % 9223372036854775808 = O by omega]; rfl
  have v2 : val 1 = U 1 := by
    rw [val_eq f1, show F.sgn 1 = false from F.sgn_f (by omega), show (1 : Int) % 9223372036854775808 = 1 by omega]; rfl
  have hv : vs [O, 1] = U O + sc 1 (-1074) := by
    simp only [vs]
    rw [v1, v2, u3]
    omega
  clear e e2 v1 v2 u3
  generalize sc 1 (-1074) = e0 at *
  generalize sc 1 (k - 1074) = E at *
  have hn : vs [O, 1] ≠ 0 := by rw [hv, u1]; omega
  rw [(AT_fin (by omega) (by simp) hf).2 hn]
  have t := tot_ok hf (by simp)
  rw [hv] at t
  have a := (A_abs (tot [O, 1] dz)).1 (by rw [t.2, u1]; omega)
  have eA : A (tot [O, 1] dz) = U O + e0 := a.1.trans t.2
  have tw : Tow (A (tot [O, 1] dz)) O false true := tow_bit rfl rfl (by rw [hO]; decide) (by rw [hO]; decide) eA hp h4 (by rw [u2, u1, Int.add_mul, Int.one_mul])
  obtain ⟨x1, x2, -⟩ := TX_of t.1 (mode := 1) (by omega) tw
  rw [x1, x2, a.2, hP, hO]
  unfold ry rx up
  simp
end SC
end Go.Proofs.YtejglcpiihkenaaGreatDoor

/-
  Package sum: one and one, the walk.
-/
namespace Go.Proofs.YtejglcpiihkenaaGreatDoor
set_option linter.unusedVariables false
set_option linter.unusedSimpArgs false
open Go.RowKit
set_option linter.unusedVariables false
set_option linter.unusedSimpArgs false
namespace SC
open L NC NK DC RC
end SC
end Go.Proofs.YtejglcpiihkenaaGreatDoor

