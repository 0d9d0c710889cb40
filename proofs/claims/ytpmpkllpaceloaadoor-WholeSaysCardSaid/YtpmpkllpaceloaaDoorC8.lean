/-
  Texts glued together for a claim: R4 R5 R6 U1 U2 U3 U4 U5 U6 U7 U8 U9.
-/
import Derived.Test.YtpmpkllpaceloaaDoorC7
import Derived.Test.YtpmpkllpaceloaaDoorC1
/-
  Package round: toward0.
-/
namespace Go.Proofs.YtpmpkllpaceloaaDoor
set_option linter.unusedVariables false
set_option linter.unusedSimpArgs false
open Go.RowKit
set_option linter.unusedVariables false
namespace RC
open L NC NK DC
open Z (Nz Tz cmpv)
theorem bits_ex : ∀ (f : Nat) (z : Int), 0 < z → z < 2 ^ f → ∃ k : Nat, k ≤ f ∧ 0 < k ∧ z < 2 ^ k ∧ 2 ^ (k - 1) ≤ z := by
  intro f
  induction f with
  | zero => intro z h0 h1; simp at h1; omega
  | succ f ih =>
    intro z h0 h1
    by_cases h : z < 2 ^ f
    · obtain ⟨k, a, b⟩ := ih z h0 h
      exact ⟨k, by omega, b⟩
    · exact ⟨f + 1, by omega, by omega, h1, by simp; omega⟩
theorem Bits_k {u : Value} {z : Int} {w : World} {k : Nat} (h : PV w u 0 z) (h1 : z < 2 ^ k) (h2 : 2 ^ (k - 1) ≤ z) (h0 : 0 < k) : Calls Tryd.prog 104 #[u] w (fun e w' => e = .returned (.tuple #[.int .i64 k, .int .i64 0]) ∧ w = w') := by
  refine (bits_p h).mono ?_
  rintro e w' ⟨n, rfl, h3, h4, -, rfl⟩
  obtain ⟨h5, h6⟩ := h4.out rfl
  have hz : 0 < z := by have := two_pos' (k - 1); omega
  have e : n = k := by
    rcases h6 with rfl | h6
    · simp at h5; omega
    · have a1 := two_lt (Int.lt_of_le_of_lt h6 h1)
      have a2 := two_lt (Int.lt_of_le_of_lt h2 h5)
      have n0 : n ≠ 0 := by rintro rfl; simp at h5; omega
      omega
  rw [e]
  exact ⟨rfl, rfl⟩
/-- behind the box of a Dyad and a rest's cell -/
theorem tbox (w : World) (b1 : Bool) (A1 : Option Addr) (n1 c1 : Nat) (x1 : Int) :
    ∃ W0, (w.alloc (.cells #[.bool b1, .slice A1 n1 c1, .int .i64 x1] 51)).alloc (.cells #[.bool false, .bool false] 96) = W0 ∧ Below w.heap.size w W0 ∧
    (∀ W, Below W0.heap.size W0 W → BX W w.heap.size b1 A1 n1 c1 x1 ∧ Blk W (w.heap.size + 1) 96 #[.bool false, .bool false]) := by
  obtain ⟨N1, N2, NS, NB⟩ := new2 w 51 96 #[.bool b1, .slice A1 n1 c1, .int .i64 x1] #[.bool false, .bool false] 0
  rw [World.drewN_zero] at N1 N2 NS NB
  exact ⟨_, rfl, NB, fun W h => ⟨BX.of (N1.below h N1.lt), N2.below h N2.lt⟩⟩
set_option maxRecDepth 100000 in
theorem toward0_z (b : Bool) (A : Option Addr) (c : Nat) (x : Int) (w : World) :
    Calls Tryd.prog 95 #[.agg #[.bool b, .slice A 0 c, .int .i64 x]] w (DC.RetB w (.tuple #[.int .u64 0, .agg #[.bool false, .bool false]])) := by
  obtain ⟨W0, hW0, D0, KB⟩ := tbox w b A 0 c x
  have IZ : Hid (∀ W, Calls Tryd.prog 65 #[.agg #[.bool b, .slice A 0 c, .int .i64 x]] W (DC.RetB W (.bool true))) := fun W => by
    have := isZero_c b A 0 c x W
    rwa [show decide (0 = 0) = true from rfl] at this
  have KB := Lib.hid KB
  have D0 := Lib.hid D0
  have HW0 := Lib.hid hW0
  clear hW0
  go_enter Tryd.func95, Tryd.ntmps95
  go_wp2_with (first
    | (go_at_call 65; rw [HW0.out]; (with_reducible refine (IZ.out _).mono ?_); rintro e w2 ⟨rfl, hb0⟩; have D := Lib.hid hb0; obtain ⟨⟨p0, p1, p2⟩, R2⟩ := KB.out _ D.out; have t0 := R2.at_ 0 rfl; have t1 := R2.at_ 1 rfl; have f0 := R2.frozen 0; have f1 := R2.frozen 1; have R2 := Lib.hid R2))
  exact bodyPost_ret (v := .tuple #[.int .u64 0, .agg #[.bool false, .bool false]]) (by simp [results, Tryd.results95, go_sem, t0, t1]) rfl
    ⟨rfl, below2 (D0.out.trans (D.out.mono D0.out.size)) (by omega) _ _⟩
set_option maxRecDepth 100000 in
theorem toward0_far (b : Bool) (A : Option Addr) (n c : Nat) (x z : Int) (k : Nat) (w : World) (h : PV w (.slice A n c) 0 z) (hn : n ≠ 0) (h1 : z < 2 ^ k) (h2 : 2 ^ (k - 1) ≤ z) (h0 : 0 < k) (hk : k ≤ 12800) (hx : -20000 ≤ x ∧ x ≤ 20000) (ht : 1024 < k + x) :
    Calls Tryd.prog 95 #[.agg #[.bool b, .slice A n c, .int .i64 x]] w (DC.RetB w (.tuple #[.int .u64 9218868437227405311, .agg #[.bool true, .bool true]])) := by
  obtain ⟨W0, hW0, D0, KB⟩ := tbox w b A n c x
  have IZ : Hid (∀ W, Calls Tryd.prog 65 #[.agg #[.bool b, .slice A n c, .int .i64 x]] W (DC.RetB W (.bool false))) := fun W => by
    have := isZero_c b A n c x W
    rwa [show decide (n = 0) = false by simp [hn]] at this
  have BT : Hid (∀ W, Below W0.heap.size W0 W → Calls Tryd.prog 104 #[.slice A n c] W (fun e w' => e = .returned (.tuple #[.int .i64 k, .int .i64 0]) ∧ W = w')) := fun W hW => Bits_k ((h.below D0).below hW) h1 h2 h0
  have i1 : IntKind.i64.wrap ((k : Int) + x) = k + x := IntWalk.i64_in _ (by omega)
  obtain ⟨T, hT⟩ : ∃ T, (k : Int) + x = T := ⟨_, rfl⟩
  rw [hT] at i1 ht
  rw [← hT] at i1
  have HT := Lib.hid hT
  have KB := Lib.hid KB
  have D0 := Lib.hid D0
  have HW0 := Lib.hid hW0
  have ht' : (k : Int) + x > 1024 := by omega
  clear hW0 h hn h1 h2 h0 hk hx hT ht
  go_enter Tryd.func95, Tryd.ntmps95
  go_wp2_with (first
    | (go_at_call 65; rw [HW0.out]; (with_reducible refine (IZ.out _).mono ?_); rintro e w2 ⟨rfl, hb0⟩; have D := Lib.hid hb0; obtain ⟨⟨p0, p1, p2⟩, R2⟩ := KB.out _ D.out; have t0 := R2.at_ 0 rfl; have t1 := R2.at_ 1 rfl; have f0 := R2.frozen 0; have f1 := R2.frozen 1; have R2 := Lib.hid R2)
    | (go_at_call 104; (with_reducible refine (BT.out _ D.out).mono ?_); rintro e w3 ⟨rfl, rfl⟩))
  exact bodyPost_ret (v := .tuple #[.int .u64 9218868437227405311, .agg #[.bool true, .bool true]]) (by simp [results, Tryd.results95, go_sem, t0, t1]) rfl
    ⟨rfl, below2 (D0.out.trans (D.out.mono D0.out.size)) (by omega) _ _⟩
set_option maxRecDepth 100000 in
theorem toward0_near (b : Bool) (A : Option Addr) (n c : Nat) (x z u : Int) (k : Nat) (w : World) (h : PV w (.slice A n c) 0 z) (hn : n ≠ 0) (h1 : z < 2 ^ k) (h2 : 2 ^ (k - 1) ≤ z) (h0 : 0 < k) (hk : k ≤ 12800) (hx : -20000 ≤ x ∧ x ≤ 20000) (ht : k + x ≤ 1024) (hu : u = max (k + x - 53) (-1074))
    (q : Int) (hf m : Bool) (hq : 0 ≤ q ∧ q < 9007199254740992) (hT : TabD w)
    (SP : ∀ W, Below w.heap.size w W → Calls Tryd.prog 67 #[.slice A n c, .int .i64 (x - u)] W (RetSp W q hf m)) :
    Calls Tryd.prog 95 #[.agg #[.bool b, .slice A n c, .int .i64 x]] w (DC.RetB w (.tuple #[.int .u64 ((u + 1074) * 4503599627370496 + q), .agg #[.bool hf, .bool m]])) := by
  obtain ⟨W0, hW0, D0, KB⟩ := tbox w b A n c x
  have IZ : Hid (∀ W, Calls Tryd.prog 65 #[.agg #[.bool b, .slice A n c, .int .i64 x]] W (DC.RetB W (.bool false))) := fun W => by
    have := isZero_c b A n c x W
    rwa [show decide (n = 0) = false by simp [hn]] at this
  have BT : Hid (∀ W, Below W0.heap.size W0 W → Calls Tryd.prog 104 #[.slice A n c] W (fun e w' => e = .returned (.tuple #[.int .i64 k, .int .i64 0]) ∧ W = w')) := fun W hW => Bits_k ((h.below D0).below hW) h1 h2 h0
  have SP : Hid (∀ W, Below W0.heap.size W0 W → Calls Tryd.prog 67 #[.slice A n c, .int .i64 (x - u)] W (RetSp W q hf m)) := fun W hW => SP W (D0.trans (hW.mono D0.size))
  have WD : Hid (∀ (W : World) A n c, NV W (.slice A n c) q → Calls Tryd.prog 107 #[.slice A n c] W (fun e w' => e = .returned (.int .u64 q) ∧ W = w')) := fun W A n c hv => word_c A n c q W hv (by omega)
  have i1 : IntKind.i64.wrap ((k : Int) + x) = k + x := IntWalk.i64_in _ (by omega)
  have i2 : IntKind.i64.wrap ((k : Int) + x - 52) = k + x - 52 := IntWalk.i64_in _ (by omega)
  have i3 : IntKind.i64.wrap ((k : Int) + x - 52 - 1) = k + x - 52 - 1 := IntWalk.i64_in _ (by omega)
  have i4 : IntKind.i64.wrap (x - u) = x - u := IntWalk.i64_in _ (by omega)
  have hu2 : max ((k : Int) + x - 52 - 1) (-1074) = u := by omega
  have ub : -1074 ≤ u ∧ u ≤ 971 := by omega
  have ht' : ¬ (k : Int) + x > 1024 := by omega
  have KB := Lib.hid KB
  have D0 := Lib.hid D0
  have HW0 := Lib.hid hW0
  obtain ⟨T, hT⟩ : ∃ T, (k : Int) + x = T := ⟨_, rfl⟩
  clear hW0 h hn h1 h2 h0 hk hx hT ht hu
  go_enter Tryd.func95, Tryd.ntmps95
  go_upto_region 9 with (first
    | (go_at_call 65; rw [HW0.out]; (with_reducible refine (IZ.out _).mono ?_); rintro e w2 ⟨rfl, hb0⟩; have D := Lib.hid hb0; obtain ⟨⟨p0, p1, p2⟩, R2⟩ := KB.out _ D.out; have t0 := R2.at_ 0 rfl; have t1 := R2.at_ 1 rfl; have f0 := R2.frozen 0; have f1 := R2.frozen 1; have R2 := Lib.hid R2)
    | (go_at_call 104; (with_reducible refine (BT.out _ D.out).mono ?_); rintro e w3 ⟨rfl, rfl⟩)
    | (go_at_call 67; (with_reducible refine (SP.out _ D.out).mono ?_); rintro e w5 ⟨A5, n5, c5, rfl, hv5, hb5⟩; have D := Lib.hid (D.out.trans (hb5.mono D.out.size))))
  have N8 := Blk.new w5 96 #[.bool hf, .bool m]
  have D6 := D.out.alloc D.out.size (.cells #[.bool hf, .bool m] 96)
  have V6 := hv5.below (al1 w5 (.cells #[.bool hf, .bool m] 96))
  have hne : w5.heap.size ≠ w.heap.size + 1 := by
    obtain ⟨-, R⟩ := KB.out _ D.out
    have := R.lt
    omega
  obtain ⟨w6, hw6⟩ : ∃ w6, w5.alloc (.cells #[.bool hf, .bool m] 96) = w6 := ⟨_, rfl⟩
  obtain ⟨g8, hg8⟩ : ∃ g8, w5.heap.size = g8 := ⟨_, rfl⟩
  rw [hw6] at N8 D6 V6 ⊢
  rw [hg8] at N8 hne ⊢
  have c1 : IntKind.i64.wrap (u + 1074) = u + 1074 := IntWalk.i64_in _ (by omega)
  have c2 : IntKind.u64.wrap (u + 1074) = u + 1074 := IntWalk.u64_in _ (by omega)
  have c3 : IntKind.u64.wrap ((u + 1074) * 4503599627370496) = (u + 1074) * 4503599627370496 := IntWalk.u64_in _ (by omega)
  have c4 : IntKind.u64.wrap ((u + 1074) * 4503599627370496 + q) = (u + 1074) * 4503599627370496 + q := IntWalk.u64_in _ (by omega)
  have D := Lib.hid D6
  clear hw6 hg8 D6 hv5 hb5 t0 t1 f0 f1 R2 p0 p1 p2 hb0
  have N9 := N8
  have V9 : NV w6.drew (.slice A5 n5 c5) q := V6
  obtain ⟨-, R2⟩ := KB.out _ D.out
  have n0 := N9.at_ 0 rfl; have n1 := N9.at_ 1 rfl
  (refine wp_region_L (S := fun w' => w'.cell? ⟨g8, 0, none⟩ = some (.bool hf) ∧ w'.cell? ⟨g8, 1, none⟩ = some (.bool m)) (nl := 1000000) (by kernel_rfl) ?_ (fun hHeld => ?_); focus (exact ⟨n0, n1⟩))
  (refine wpAnyL_take (i := 0) (oi := _) (v := ?_) rfl (by kernel_rfl) (by kernel_rfl) (by kernel_rfl) (fun _ _ _ h => h) (Or.inl ⟨by first | rfl | kernel_rfl, ?hy1⟩) (by assumption) ?rs1; (case hy1 => (intro w hSw; (try dsimp only at hSw); go_simp; first | done | with_reducible rfl)); case' rs1 => (simp only [List.getElem_toArray, List.getElem_cons_zero, List.getElem_cons_succ, Act.put, List.setIfInBounds_toArray, List.set_cons_zero, List.set_cons_succ])); (refine wpAnyL_take (i := 1) (oi := _) (v := ?_) rfl (by kernel_rfl) (by kernel_rfl) (by kernel_rfl) (fun _ _ _ h => h) (Or.inl ⟨by first | rfl | kernel_rfl, ?hy2⟩) (by assumption) ?rs2; (case hy2 => (intro w hSw; (try dsimp only at hSw); go_simp; first | done | with_reducible rfl)); case' rs2 => (simp only [List.getElem_toArray, List.getElem_cons_zero, List.getElem_cons_succ, Act.put, List.setIfInBounds_toArray, List.set_cons_zero, List.set_cons_succ])); (refine wpAnyL_take (i := 2) (oi := _) (v := ?_) rfl (by kernel_rfl) (by kernel_rfl) (by kernel_rfl) (fun _ _ _ h => h) (Or.inl ⟨by first | rfl | kernel_rfl, ?hy3⟩) (by assumption) ?rs3; (case hy3 => (intro w hSw; (try dsimp only at hSw); go_simp; first | done | with_reducible rfl)); case' rs3 => (simp only [List.getElem_toArray, List.getElem_cons_zero, List.getElem_cons_succ, Act.put, List.setIfInBounds_toArray, List.set_cons_zero, List.set_cons_succ])); (refine wpAnyL_take (i := 3) (oi := _) (v := ?_) rfl (by kernel_rfl) (by kernel_rfl) (by kernel_rfl) (fun _ _ _ h => h) (Or.inl ⟨by first | rfl | kernel_rfl, ?hy4⟩) (by assumption) ?rs4; (case hy4 => (intro w hSw; (try dsimp only at hSw); go_simp; first | done | with_reducible rfl)); case' rs4 => (simp only [List.getElem_toArray, List.getElem_cons_zero, List.getElem_cons_succ, Act.put, List.setIfInBounds_toArray, List.set_cons_zero, List.set_cons_succ])); (refine wpAnyL_take (i := 4) (oi := _) (v := ?_) rfl (by kernel_rfl) (by kernel_rfl) (by kernel_rfl) (fun _ _ _ h => h) (Or.inl ⟨by first | rfl | kernel_rfl, ?hy5⟩) (by assumption) ?rs5; (case hy5 => (intro w hSw; (try dsimp only at hSw); go_simp; first | done | with_reducible rfl)); case' rs5 => (simp only [List.getElem_toArray, List.getElem_cons_zero, List.getElem_cons_succ, Act.put, List.setIfInBounds_toArray, List.set_cons_zero, List.set_cons_succ])); (refine wpAnyL_take (i := 7) (oi := _) (v := ?_) rfl (by kernel_rfl) (by kernel_rfl) (by kernel_rfl) (fun _ _ _ h => h) (Or.inl ⟨by first | rfl | kernel_rfl, ?hy6⟩) (by assumption) ?rs6; (case hy6 => (intro w hSw; (try dsimp only at hSw); go_simp; first | done | with_reducible rfl)); case' rs6 => (simp only [List.getElem_toArray, List.getElem_cons_zero, List.getElem_cons_succ, Act.put, List.setIfInBounds_toArray, List.set_cons_zero, List.set_cons_succ])); skip
  (refine wpAnyL_one (i := 5) (o := _) (by kernel_rfl) rfl (fun K hK => ?_); clear hHeld; simp only [List.getElem_toArray, List.getElem_cons_zero, List.getElem_cons_succ]; go_simp; (go_at_call 107; (with_reducible refine (WD.out _ _ _ _ V9).mono ?_); rintro e w7 ⟨rfl, rfl⟩); refine hK.out _ _ ?_ (fun hHeld => ?_); focus (intro _; exact ⟨n0, n1⟩)); have hHeld := hHeld (by decide); clear hK K; (try simp only [Act.put, List.setIfInBounds_toArray, List.set_cons_zero, List.set_cons_succ])
  (refine wpAnyL_take (i := 6) (oi := _) (v := ?_) rfl (by kernel_rfl) (by kernel_rfl) (by kernel_rfl) (fun _ _ _ h => h) (Or.inl ⟨by first | rfl | kernel_rfl, ?hy7⟩) (by assumption) ?rs7; (case hy7 => (intro w hSw; (try dsimp only at hSw); go_simp; first | done | with_reducible rfl)); case' rs7 => (simp only [List.getElem_toArray, List.getElem_cons_zero, List.getElem_cons_succ, Act.put, List.setIfInBounds_toArray, List.set_cons_zero, List.set_cons_succ])); (refine wpAnyL_take (i := 8) (oi := _) (v := ?_) rfl (by kernel_rfl) (by kernel_rfl) (by kernel_rfl) (fun _ _ _ h => h) (Or.inl ⟨by first | rfl | kernel_rfl, ?hy8⟩) (by assumption) ?rs8; (case hy8 => (intro w hSw; (try dsimp only at hSw); go_simp; first | done | with_reducible rfl)); case' rs8 => (simp only [List.getElem_toArray, List.getElem_cons_zero, List.getElem_cons_succ, Act.put, List.setIfInBounds_toArray, List.set_cons_zero, List.set_cons_succ])); skip
  have t0 := R2.at_ 0 rfl; have t1 := R2.at_ 1 rfl; have f0 := R2.frozen 0; have f1 := R2.frozen 1
  (refine wpAnyL_one (i := 9) (o := _) (by kernel_rfl) rfl (fun K hK => ?_); clear hHeld; simp only [List.getElem_toArray, List.getElem_cons_zero, List.getElem_cons_succ]; go_simp; refine hK.out _ _ ?_ (fun hHeld => ?_); focus (intro _; (have NF := (N9.far (p := ⟨w.heap.size + 1, 0, none⟩) hne (.bool hf)).far (p := ⟨w.heap.size + 1, 1, none⟩) hne (.bool m); exact ⟨NF.at_ 0 rfl, NF.at_ 1 rfl⟩))); have hHeld := hHeld (by decide); clear hK K; (try simp only [Act.put, List.setIfInBounds_toArray, List.set_cons_zero, List.set_cons_succ])
  refine wpAnyL_done (by kernel_rfl) ?_ _
  go_wp2
  exact bodyPost_ret (v := .tuple #[.int .u64 ((u + 1074) * 4503599627370496 + q), .agg #[.bool hf, .bool m]]) (by simp [results, Tryd.results95, go_sem, t0, t1]) rfl
    ⟨rfl, (below2 (D0.out.trans (D.out.mono D0.out.size)) (B := w.heap.size + 1) (by omega) (.bool hf) (.bool m)).drew⟩
theorem two_54 : (18014398509481984 : Int) < 4294967296 ^ 400 := Int.lt_of_lt_of_le (show (18014398509481984 : Int) < 4294967296 ^ 2 by decide) (pow_mono (by decide))
/-- what toward0 tells -/
theorem toward0_c (b : Bool) (A : Option Addr) (n c : Nat) (x z : Int) (w : World) (h : PV w (.slice A n c) 0 z) (hx : -20000 ≤ x ∧ x ≤ 20000) (hT : TabD w) :
    ∃ r hf m, Tow (sc z x) r hf m ∧ ∀ W, Below w.heap.size w W → Calls Tryd.prog 95 #[.agg #[.bool b, .slice A n c, .int .i64 x]] W (DC.RetB W (.tuple #[.int .u64 r, .agg #[.bool hf, .bool m]])) := by
  have sm := h.small
  have hlt := sm.2 rfl
  by_cases h0 : z = 0
  · subst h0
    obtain rfl := NV.zero h.nv
    exact ⟨0, false, false, by rw [sc_zero.2 rfl]; exact tow_zero, fun W hW => toward0_z b A c x W⟩
  · have hz : 0 < z := by omega
    have hn : n ≠ 0 := by
      rintro rfl
      obtain ⟨l, l1, l2, l3, l4⟩ := h.nv
      have en := l1.len_.1
      have := List.length_eq_zero_iff.1 en.symm
      rw [this] at l4
      simp [lv] at l4
      omega
    obtain ⟨k, k1, k2, k3, k4⟩ := bits_ex 12800 z hz (by rw [← pow_12800]; exact hlt)
    by_cases ht : k + x ≤ 1024
    · obtain ⟨u, hu⟩ : ∃ u : Int, u = max (k + x - 53) (-1074) := ⟨_, rfl⟩
      obtain ⟨t1, t2⟩ := tow_near (x := x) (by omega) k3 k4 k2 ht hu
      have hp := sh_pos sm.1 (x - u + 1)
      refine ⟨_, _, _, t2, fun W hW => toward0_near b A n c x z u k W (h.below hW) hn k3 k4 k2 k1 hx ht hu _ _ _ (by omega) (hT.below hW) fun W' hW' => ?_⟩
      exact split_c _ z (x - u) W' ((h.below hW).below hW') (by omega) (by omega) (Int.lt_trans t1 two_54) ((hT.below hW).below hW')
    · refine ⟨_, true, true, tow_far (t := 1024) rfl rfl ?_, fun W hW => toward0_far b A n c x z k W (h.below hW) hn k3 k4 k2 k1 hx (by omega)⟩
      have e1 : sc 1 (x + (k - 1 : Nat)) ≤ sc z x := by rw [← sc_two _ x (by omega), sc_le]; exact k4
      exact Int.le_trans (sc1_le (by omega) (by omega)) e1
/-- the rank that is told, and the number's bits -/
def ry (b : Bool) (r : Int) (hf m : Bool) (mode : Int) : Int := if up b (decide (r % 2 = 1)) hf m mode = true then r + 1 else r
def rx (b : Bool) (y : Int) : Int := if b = true then F.neg y else y
theorem number_c (b : Bool) (A : Option Addr) (n c : Nat) (x z r mode : Int) (hf m : Bool) (w : World) (h : PV w (.slice A n c) 0 z) (hx : -20000 ≤ x ∧ x ≤ 20000) (t : Tow (sc z x) r hf m) (hT : TabD w) :
    Calls Tryd.prog 72 #[.agg #[.bool b, .slice A n c, .int .i64 x], .int .i64 mode] w (DC.RetB w (.tuple #[.int .u64 (rx b (ry b r hf m mode)), .bool (hf || m)])) := by
  have D0 : Below w.heap.size w (w.alloc (.cells #[.bool b, .slice A n c, .int .i64 x] 51)) := al1 _ _
  have T0 : Hid (∀ W, Below w.heap.size w W → Calls Tryd.prog 95 #[.agg #[.bool b, .slice A n c, .int .i64 x]] W (DC.RetB W (.tuple #[.int .u64 r, .agg #[.bool hf, .bool m]]))) := by
    obtain ⟨r', h', m', t', hc⟩ := toward0_c b A n c x z w h hx hT
    obtain ⟨rfl, rfl, rfl⟩ := t.unique t'
    exact hc
  have r0 := t.r0
  have r1 := t.r1
  obtain ⟨u, hu⟩ : ∃ u, up b (decide (r % 2 = 1)) hf m mode = u := ⟨_, rfl⟩
  have AW : Hid (∀ W, Calls Tryd.prog 68 #[.agg #[.bool hf, .bool m], .bool b, .bool (decide (r % 2 = 1)), .int .i64 mode] W (DC.RetB W (.bool u))) := fun W => by
    have := away_c hf m b (decide (r % 2 = 1)) mode W
    rwa [hu] at this
  have NG : Hid (∀ (W : World) (y : Int), 0 ≤ y → y ≤ 9223372036854775807 → Calls Tryd.prog 96 #[.int .u64 y] W (fun e w' => e = .returned (.int .u64 (F.neg y)) ∧ W = w')) := fun W y h1 h2 => FloatC.Neg_c y h1 (by omega) W
  unfold ry rx
  rw [hu]
  have BX0 := BX.new w b A n c x
  obtain ⟨W0, hW0⟩ : ∃ W0, w.alloc (.cells #[.bool b, .slice A n c, .int .i64 x] 51) = W0 := ⟨_, rfl⟩
  rw [hW0] at D0 BX0
  have HW0 := Lib.hid hW0
  have KB : Hid (∀ W, Below W0.heap.size W0 W → BX W w.heap.size b A n c x) := fun W hW => BX0.below hW
  have D0 := Lib.hid D0
  have i1 : IntKind.u64.wrap (r + 1) = r + 1 := IntWalk.u64_in _ (by omega)
  have i2 : IntKind.u64.wrap (r % 2) = r % 2 := IntWalk.u64_in _ (by omega)
  have e5 : (r % 2 == 1) = decide (r % 2 = 1) := rfl
  clear hu t h hx hT hW0 BX0
  cases u <;> cases b
  all_goals (
    go_enter Tryd.func72, Tryd.ntmps72
    go_wp2_with (first
      | (go_at_call 95; rw [HW0.out]; (with_reducible refine (T0.out _ D0.out).mono ?_); rintro e w2 ⟨rfl, hb0⟩; have D := Lib.hid (hb0.alloc hb0.size (.cells #[.bool hf, .bool m] 96)); obtain ⟨p0, p1, p2⟩ := KB.out _ D.out)
      | (go_at_call 68; (try rw [e5]); (with_reducible refine (AW.out _).mono ?_); rintro e w3 ⟨rfl, hb3⟩; have D := Lib.hid (D.out.trans (hb3.mono D.out.size)); obtain ⟨p0, p1, p2⟩ := KB.out _ D.out; have N8 := (Blk.new w2 96 #[.bool hf, .bool m]).below hb3 (Blk.new w2 96 #[.bool hf, .bool m]).lt; have n0 := N8.at_ 0 rfl; have n1 := N8.at_ 1 rfl)
      | (go_at_call 96; (with_reducible refine (NG.out _ _ (by omega) (by omega)).mono ?_); rintro e w4 ⟨rfl, rfl⟩))
    clear T0 AW NG KB HW0 N8
    have D9 := Lib.hid (D0.out.trans (D.out.mono D0.out.size))
    cases hf <;> cases m
    all_goals (
      go_region
      go_wp2
      go_ret2
      exact ⟨rfl, D9.out.drew⟩))
end RC
end Go.Proofs.YtpmpkllpaceloaaDoor

/-
  Package round: To; a half, twice.
-/
namespace Go.Proofs.YtpmpkllpaceloaaDoor
set_option linter.unusedVariables false
set_option linter.unusedSimpArgs false
open Go.RowKit
set_option linter.unusedVariables false
set_option linter.unusedSimpArgs false
namespace RC
open L NC NK DC
open Z (Nz Tz cmpv)
theorem tow_ex {z x : Int} (h0 : 0 ≤ z) (hz : z < 4294967296 ^ 400) (hx : -20000 ≤ x ∧ x ≤ 20000) : ∃ r h m, Tow (sc z x) r h m := by
  by_cases h : z = 0
  · subst h; exact ⟨0, false, false, by rw [sc_zero.2 rfl]; exact tow_zero⟩
  · obtain ⟨k, k1, k2, k3, k4⟩ := bits_ex 12800 z (by omega) (by rw [← pow_12800]; exact hz)
    by_cases ht : k + x ≤ 1024
    · exact ⟨_, _, _, (tow_near (x := x) (by omega) k3 k4 k2 ht rfl).2⟩
    · refine ⟨_, true, true, tow_far (t := 1024) rfl rfl ?_⟩
      have e1 : sc 1 (x + (k - 1 : Nat)) ≤ sc z x := by rw [← sc_two _ x (by omega), sc_le]; exact k4
      exact Int.le_trans (sc1_le (by omega) (by omega)) e1
/-- how far from 0 -/
def A (d : Dy) : Int := sc (d.m.natAbs : Int) d.x
def ng (d : Dy) : Bool := decide (d.m < 0)
theorem abs_small {d : Dy} (h : inb d.m d.x) : (d.m.natAbs : Int) < 4294967296 ^ 400 := by
  obtain ⟨h1, h2, -⟩ := h
  generalize (4294967296 : Int) ^ 400 = c400 at *
  omega
theorem towA {d : Dy} (h : Ok d) : ∃ r hf m, Tow (A d) r hf m ∧ tow (A d) = (r, hf, m) := by
  obtain ⟨r, hf, m, t⟩ := tow_ex (z := (d.m.natAbs : Int)) (x := d.x) (by omega) (abs_small h.2.2) (by have := h.2.2.2.2; omega)
  exact ⟨r, hf, m, t, tow_eq t⟩
/-- what To tells of a number -/
noncomputable def YY (b : Bool) (a : Int) (mode : Int) : Int := ry b (tow a).1 (tow a).2.1 (tow a).2.2 mode
noncomputable def LL (a : Int) : Bool := (tow a).2.1 || (tow a).2.2
noncomputable def TX (d : Dy) (mode : Int) : Int := if d.er = 0 ∧ 0 ≤ mode ∧ mode ≤ 4 then rx (ng d) (YY (ng d) (A d) mode) else 0
noncomputable def TL (d : Dy) (mode : Int) : Bool := if d.er = 0 ∧ 0 ≤ mode ∧ mode ≤ 4 then LL (A d) else false
def TE (d : Dy) (mode : Int) : Int := if d.er ≠ 0 then d.er else if 0 ≤ mode ∧ mode ≤ 4 then 0 else 1
theorem GV.tow {w : World} {b A n c x d} (g : GV w b A n c x d) : ∃ r hf m, Tow (sc (d.m.natAbs : Int) x) r hf m ∧ tow (RC.A d) = (r, hf, m) := by
  obtain ⟨h1, hb, hx, he, hc, hi⟩ := g
  obtain ⟨r, hf, m, t, e⟩ := towA ⟨he, hc, hi⟩
  rw [hx]
  exact ⟨r, hf, m, t, e⟩
theorem To_d (v : Value) (d : Dy) (mode : Int) (w : World) (h : DV w v d) (hT : TabD w) : Calls Tryd.prog 36 #[v, .int .i64 mode] w (DC.RetB w (.tuple #[.int .u64 (TX d mode), .bool (TL d mode), .int .i64 (TE d mode)])) := by
  have C1 : ∀ W, Below w.heap.size w W → Calls Tryd.prog 63 #[v] W (DC.RetB W (.int .i64 d.er)) := fun W hW => Check_d v d W (h.below hW)
  obtain ⟨b1, A1, n1, c1, x1, l1, rfl, -, -, -, -, g1, -⟩ := h
  have X0 := BX.new w b1 A1 n1 c1 x1
  have D0 := al1 w (.cells #[.bool b1, .slice A1 n1 c1, .int .i64 x1] 51)
  obtain ⟨W0, hW0⟩ : ∃ W0, w.alloc (.cells #[.bool b1, .slice A1 n1 c1, .int .i64 x1] 51) = W0 := ⟨_, rfl⟩
  rw [hW0] at X0 D0
  have C1 := Lib.hid (C1 W0 D0)
  have IM : Hid (∀ W, Calls Tryd.prog 64 #[.int .i64 mode] W (fun e w' => e = .returned (.bool (decide (0 ≤ mode ∧ mode ≤ 4))) ∧ W = w')) := fun W => isMode_c mode W
  have KB : Hid (∀ W, Below W0.heap.size W0 W → BX W w.heap.size b1 A1 n1 c1 x1) := fun W hW => X0.below hW
  have HW0 := Lib.hid hW0
  unfold TX TL TE
  obtain ⟨E, hE⟩ : ∃ E, d.er = E := ⟨_, rfl⟩
  rw [hE] at C1 ⊢
  by_cases h0 : E = 0
  · have t1 : (E != 0) = false := by simp [h0]
    by_cases hm : 0 ≤ mode ∧ mode ≤ 4
    · rw [if_pos ⟨h0, hm⟩, if_pos ⟨h0, hm⟩, if_neg (by simpa using h0), if_pos hm]
      rw [decide_eq_true hm] at IM
      have g := g1 (hE.trans h0)
      have hx := g.2.2.1
      have hi := g.2.2.2.2.2
      obtain ⟨r, hf, m, t, et⟩ := GV.tow g
      have NU : Hid (∀ W, Below W0.heap.size W0 W → Calls Tryd.prog 72 #[.agg #[.bool b1, .slice A1 n1 c1, .int .i64 x1], .int .i64 mode] W (DC.RetB W (.tuple #[.int .u64 (rx (ng d) (YY (ng d) (RC.A d) mode)), .bool (LL (RC.A d))]))) := fun W hW => by
        have := number_c b1 A1 n1 c1 x1 _ r mode hf m W ((g.pv.below D0).below hW) (by have := hi.2.2; omega) t ((hT.below D0).below hW)
        unfold YY LL ng
        rw [et, ← g.2.1]
        exact this
      generalize rx (ng d) (YY (ng d) (RC.A d) mode) = X at *
      generalize LL (RC.A d) = Lo at *
      clear h0 hE hW0 g1 hT t et hi g hm hx X0
      have D0 := Lib.hid D0
      go_enter Tryd.func36, Tryd.ntmps36
      go_wp2_with (first
        | (go_at_call 63; rw [HW0.out]; (with_reducible refine (C1.out).mono ?_); rintro e w2 ⟨rfl, hb0⟩; have D := Lib.hid hb0; obtain ⟨p0, p1, p2⟩ := KB.out _ D.out)
        | (go_at_call 64; (with_reducible refine (IM.out _).mono ?_); rintro e w3 ⟨rfl, rfl⟩)
        | (go_at_call 72; (with_reducible refine (NU.out _ D.out).mono ?_); rintro e w4 ⟨rfl, hb4⟩; have D := Lib.hid (D.out.trans (hb4.mono D.out.size))))
      go_ret3
      exact ⟨by simp [t1], D0.out.trans (D.out.mono D0.out.size)⟩
    · rw [if_neg (fun h => hm h.2), if_neg (fun h => hm h.2), if_neg (by simpa using h0), if_neg hm]
      rw [decide_eq_false hm] at IM
      clear h0 hE hW0 g1 hT hm X0
      have D0 := Lib.hid D0
      go_enter Tryd.func36, Tryd.ntmps36
      go_wp2_with (first
        | (go_at_call 63; rw [HW0.out]; (with_reducible refine (C1.out).mono ?_); rintro e w2 ⟨rfl, hb0⟩; have D := Lib.hid hb0; obtain ⟨p0, p1, p2⟩ := KB.out _ D.out)
        | (go_at_call 64; (with_reducible refine (IM.out _).mono ?_); rintro e w3 ⟨rfl, rfl⟩))
      go_ret3
      exact ⟨rfl, D0.out.trans (D.out.mono D0.out.size)⟩
  · rw [if_neg (fun h => h0 h.1), if_neg (fun h => h0 h.1), if_pos h0]
    have t1 : (E != 0) = true := by simp [h0]
    clear h0 hE hW0 g1 hT X0
    have D0 := Lib.hid D0
    go_enter Tryd.func36, Tryd.ntmps36
    go_wp2_with (first
      | (go_at_call 63; rw [HW0.out]; (with_reducible refine (C1.out).mono ?_); rintro e w2 ⟨rfl, hb0⟩; have D := Lib.hid hb0))
    go_ret3
    exact ⟨rfl, D0.out.trans (D.out.mono D0.out.size)⟩
/-- halfway between two -/
def hd : Dy := ⟨0, 9007199254740993, -53⟩
end RC
end Go.Proofs.YtpmpkllpaceloaaDoor

/-
  Rounding, pure: what the laws ask.
-/
namespace Go.Proofs.YtpmpkllpaceloaaDoor
set_option linter.unusedVariables false
set_option linter.unusedSimpArgs false
open Go.RowKit
set_option linter.unusedVariables false
set_option linter.unusedSimpArgs false
namespace RC
open L NC NK DC
open Z (Nz Tz cmpv)
theorem A_abs (d : Dy) : (0 ≤ S d → A d = S d ∧ ng d = false) ∧ (S d < 0 → A d = -S d ∧ ng d = true) := by
  have hp := sc_one_pos d.x
  have e1 : S d = d.m * sc 1 d.x := sc_mul1 _ _
  have e2 : A d = (d.m.natAbs : Int) * sc 1 d.x := sc_mul1 _ _
  rw [e1, e2]
  unfold ng
  generalize sc 1 d.x = P at *
  constructor
  · intro h
    have hm : 0 ≤ d.m := by
      rcases Int.lt_or_le d.m 0 with h1 | h1
      · have := Int.mul_neg_of_neg_of_pos h1 hp; omega
      · exact h1
    exact ⟨by rw [show (d.m.natAbs : Int) = d.m by omega], by simp; omega⟩
  · intro h
    have hm : d.m < 0 := by
      rcases Int.lt_or_le d.m 0 with h1 | h1
      · exact h1
      · have := Int.mul_nonneg h1 (Int.le_of_lt hp); omega
    exact ⟨by rw [show (d.m.natAbs : Int) = -d.m by omega, Int.neg_mul], by simp; omega⟩
theorem tow_exact {r : Int} (h0 : 0 ≤ r) (h1 : r ≤ 9218868437227405311) : Tow (U r) r false false := by
  have := U_lt h0 (show r < r + 1 by omega)
  refine ⟨h0, h1, Int.le_refl _, fun _ => this, ?_, ?_⟩
  · symm; rw [decide_eq_false_iff_not]; omega
  · symm; rw [decide_eq_false_iff_not]; intro h; exact h.1 rfl
theorem up_none (b o : Bool) (mode : Int) : up b o false false mode = false := by unfold up; simp
theorem ry_none (b : Bool) (r mode : Int) : ry b r false false mode = r := by unfold ry; rw [up_none]; simp
theorem rx_bd {b : Bool} {y : Int} (h0 : 0 ≤ y) (h1 : y ≤ 9218868437227405312) : 0 ≤ rx b y ∧ rx b y ≤ 18446744073709551615 ∧ F.nn (rx b y) ∧ F.rnk (rx b y) = (if b = true then -y else y) := by
  unfold rx F.nn F.rnk F.neg
  cases b
  · simp; omega
  · simp
    rw [if_pos (by omega)]
    refine ⟨by omega, by omega, by omega, ?_⟩
    rw [if_neg (by omega)]; omega
/-- To by Tow -/
theorem TX_of {d : Dy} {mode r : Int} {hf m : Bool} (h : Ok d) (hm : 0 ≤ mode ∧ mode ≤ 4) (t : Tow (A d) r hf m) : TX d mode = rx (ng d) (ry (ng d) r hf m mode) ∧ TL d mode = (hf || m) ∧ TE d mode = 0 := by
  have e := tow_eq t
  unfold TX TL TE YY LL
  rw [if_pos ⟨h.1, hm⟩, if_pos ⟨h.1, hm⟩, if_neg (by simpa using h.1), if_pos hm, e]
  exact ⟨rfl, rfl, rfl⟩
/-- what is a number -/
theorem of_p {x : Int} (h0 : 0 ≤ x) (h1 : x ≤ 18446744073709551615) (h2 : F.exq x ≠ 2047) : (OfD x).e = 0 ∧ Ok (OfD x).d ∧ S (OfD x).d = sgm (F.sgn x) (U (x % 9223372036854775808)) ∧ x % 9223372036854775808 ≤ 9218868437227405311 := by
  have hb := F.exq_bd x
  have hf := F.fra_bd x
  have hx := F.mk_parts x h0 h1
  have hr : x % 9223372036854775808 = F.exq x * 4503599627370496 + F.fra x := by unfold F.exq F.fra; omega
  have mb : 0 ≤ mant x ∧ mant x < 9007199254740992 := by unfold mant; split <;> omega
  obtain ⟨k, hk⟩ : ∃ k : Nat, F.ulp x + 1074 = k := ⟨(F.ulp x + 1074).toNat, by unfold F.ulp; split <;> omega⟩
  have hkq : x % 9223372036854775808 = k * 4503599627370496 + mant x ∧ (k = 0 ∨ 4503599627370496 ≤ mant x) := by
    rw [hr]
    unfold F.ulp at hk
    unfold mant
    by_cases h : 0 < F.exq x
    · rw [if_pos h]; rw [if_pos (by omega)] at hk; exact ⟨by omega, by omega⟩
    · rw [if_neg h]; rw [if_neg (by omega)] at hk; exact ⟨by omega, by omega⟩
  have ub : -1074 ≤ F.ulp x ∧ F.ulp x ≤ 971 := by unfold F.ulp; split <;> omega
  have eU := (U_of mb.1 mb.2 hkq.2).1
  rw [← hkq.1, show (k : Int) - 1074 = F.ulp x by omega] at eU
  have e1 : OfD x = fin (sgm (F.sgn x) (mant x)) (F.ulp x) := by unfold OfD; rw [if_neg h2]
  have e0 : (fin (sgm (F.sgn x) (mant x)) (F.ulp x)).e = 0 := by
    by_cases hz : mant x = 0
    · rw [hz, show sgm (F.sgn x) 0 = 0 by cases F.sgn x <;> rfl, fin_zero]
    · obtain ⟨o, o1, o2⟩ := tz_spec (m := mant x) hz
      have os := odd_small o1 (by omega)
      have ht : tz (mant x) < 53 := by
        have h3 := Int.mul_le_mul_of_nonneg_right (show (1 : Int) ≤ o by omega) (Int.le_of_lt (two_pos' (tz (mant x))))
        exact two_lt (b := 53) (Int.lt_of_le_of_lt (by omega) mb.2)
      have hi : inb (sgm (F.sgn x) o) (F.ulp x + tz (mant x)) := by
        have : (4294967296 : Int) ^ 2 ≤ 4294967296 ^ 400 := pow_mono (by decide)
        unfold inb sgm
        generalize (4294967296 : Int) ^ 400 = c400 at *
        cases F.sgn x <;> simp <;> omega
      rw [fin_sg o1 o2, if_pos hi]
  have es := fin_sc (show -60000 ≤ F.ulp x by omega) e0
  rw [e1]
  refine ⟨e0, fin_ok _ _, ?_, by rw [hr]; omega⟩
  unfold S
  rw [es, eU]
  unfold sgm
  cases F.sgn x
  · simp; exact sc_mul1 _ _
  · simp; rw [sc_neg, sc_mul1]
end RC
end Go.Proofs.YtpmpkllpaceloaaDoor

/-
  Package sum, pure: sums of lists; what has no value; zeros.
-/
namespace Go.Proofs.YtpmpkllpaceloaaDoor
set_option linter.unusedVariables false
set_option linter.unusedSimpArgs false
open Go.RowKit
set_option linter.unusedVariables false
set_option linter.unusedSimpArgs false
namespace SC
open L NC NK DC RC
/-- what fits easily -/
structure Fit (d : Dy) (k : Int) : Prop where
  ok : Ok d
  x : -1074 ≤ d.x
  hi : S d ≤ k * sc 1 1024
  lo : -(k * sc 1 1024) ≤ S d
theorem two_lt' {a b : Nat} (h : a < b) : (2 : Int) ^ a < 2 ^ b := by
  obtain ⟨k, rfl⟩ : ∃ k, b = a + 1 + k := ⟨b - a - 1, by omega⟩
  rw [Int.pow_add, Int.pow_succ]
  have h1 := two_pos' a
  have h2 := two_pos' k
  have h3 := Int.mul_le_mul_of_nonneg_left (show (1 : Int) ≤ 2 ^ k by omega) (show (0 : Int) ≤ 2 ^ a * 2 by omega)
  omega
theorem big_small {n : Nat} (h : n = 2106) : (2 : Int) ^ n < 4294967296 ^ 400 := by
  have e : (4294967296 : Int) = 2 ^ 32 := by decide
  rw [e, ← Int.pow_mul]
  exact two_lt' (by omega)
theorem inb_fit {o x t : Int} (ht : t = 1032) (ho : o ≠ 0) (hx : -1074 ≤ x) (h1 : sc o x ≤ sc 1 t) (h2 : -(sc 1 t) ≤ sc o x) : inb o x := by
  have hp := sc_one_pos x
  have e1 : sc o x = o * sc 1 x := sc_mul1 _ _
  have hxt : x ≤ t := by
    rcases Int.lt_or_le t x with h | h
    · exfalso
      have h3 : sc 1 t < sc 1 x := by
        have h4 := sc1_le (x := t + 1) (y := x) (by omega) (by omega)
        have h5 := sc_shift 1 t 1 (by omega)
        rw [show (1 : Int) * 2 ^ 1 = 2 by decide, show t + ((1 : Nat) : Int) = t + 1 by omega, sc_mul1] at h5
        have := sc_one_pos t
        omega
      rw [e1] at h1 h2
      generalize sc 1 x = E at *
      generalize sc 1 t = B at *
      rcases Int.lt_or_le o 0 with h | h
      · have := Int.mul_le_mul_of_nonneg_right (show o ≤ -1 by omega) (Int.le_of_lt hp)
        omega
      · have := Int.mul_le_mul_of_nonneg_right (show 1 ≤ o by omega) (Int.le_of_lt hp)
        omega
    · exact h
  obtain ⟨n, hn⟩ : ∃ n : Nat, n = 2106 := ⟨_, rfl⟩
  have e2 : sc 1 t = 2 ^ n * sc 1 (-1074) := by
    rw [← sc_mul1, sc_two n _ (by omega)]
    congr 1; omega
  have e3 := sc1_le (x := -1074) (y := x) (by omega) (by omega)
  have hq := sc_one_pos (-1074)
  have hb := big_small hn
  rw [e1, e2] at h1 h2
  have hP := two_pos' n
  have hx2 : x ≤ 1032 := by omega
  clear e2 hn ht
  have l1 : o ≤ 2 ^ n := by
    rcases Int.lt_or_le (2 ^ n) o with h | h
    · exfalso
      have a := Int.mul_le_mul_of_nonneg_right (show 2 ^ n + 1 ≤ o by omega) (Int.le_of_lt hp)
      have b := Int.mul_le_mul_of_nonneg_left e3 (Int.le_of_lt hP)
      rw [Int.add_mul, Int.one_mul] at a
      omega
    · exact h
  have l2 : -(2 ^ n) ≤ o := by
    rcases Int.lt_or_le o (-(2 ^ n)) with h | h
    · exfalso
      have a := Int.mul_le_mul_of_nonneg_right (show o ≤ -(2 ^ n) - 1 by omega) (Int.le_of_lt hp)
      have b := Int.mul_le_mul_of_nonneg_left e3 (Int.le_of_lt hP)
      rw [Int.sub_mul, Int.one_mul, Int.neg_mul] at a
      omega
    · exact h
  unfold inb
  generalize (4294967296 : Int) ^ 400 = c400 at *
  omega
theorem fin_x {m x : Int} (h : (fin m x).e = 0) : (fin m x).d.m = 0 ∨ x ≤ (fin m x).d.x := by
  by_cases h0 : m = 0
  · subst h0; rw [fin_zero]; exact .inl rfl
  · obtain ⟨o, h1, h2⟩ := tz_spec h0
    rw [fin_of h1 h2] at h ⊢
    by_cases hi : inb o (x + tz m)
    · rw [if_pos hi]; right; show x ≤ x + _; omega
    · rw [if_neg hi] at h; cases h
theorem fin_x' {m x : Int} (h : (fin m x).e = 0) (hx : -1074 ≤ x) : -1074 ≤ (fin m x).d.x := by
  rcases fin_x h with h1 | h1
  · have := (fin_ok m x).2.1
    unfold can at this
    omega
  · omega
theorem fit_lim {j t : Int} (hj : j ≤ 256) (ht : t = 1032) : j * sc 1 1024 ≤ sc 1 t := by
  have h := sc_two 8 1024 (by omega)
  have h' : sc 1 t = 256 * sc 1 1024 := by
    rw [← sc_mul1, show (256 : Int) = 2 ^ 8 by decide, h, ht]; rfl
  rw [h']
  exact Int.mul_le_mul_of_nonneg_right hj (Int.le_of_lt (sc_one_pos _))
theorem fin_fit {m x k : Int} (hx : -1074 ≤ x) (hk : k ≤ 256) (h1 : sc m x ≤ k * sc 1 1024) (h2 : -(k * sc 1 1024) ≤ sc m x) : (fin m x).e = 0 := by
  obtain ⟨t, ht⟩ : ∃ t : Int, t = 1032 := ⟨_, rfl⟩
  have hl := fit_lim hk ht
  by_cases h0 : m = 0
  · subst h0; rw [fin_zero]
  · obtain ⟨o, o1, o2⟩ := tz_spec h0
    rw [fin_of o1 o2]
    have e := sc_shift o x (tz m) (by omega)
    rw [← o1] at e
    rw [e] at h1 h2
    have hi := inb_fit (o := o) (x := x + tz m) ht (odd_ne o2) (by omega) (by omega) (by omega)
    rw [if_pos hi]
/-- finite -/
def fi (x : Int) : Prop := 0 ≤ x ∧ x ≤ 18446744073709551615 ∧ F.exq x ≠ 2047
/-- the value -/
def val (x : Int) : Int := S (OfD x).d
theorem U_max {M : Int} (hM : M = 9218868437227405311) : U M ≤ sc 1 1024 := by
  obtain ⟨k, hk⟩ : ∃ k : Nat, k = 2045 := ⟨_, rfl⟩
  obtain ⟨u, hu⟩ : ∃ u : Int, u = (k : Int) - 1074 := ⟨_, rfl⟩
  have hU := (U_of (k := k) (q := 9007199254740991) (by omega) (by omega) (by omega))
  rw [← hu, show (k : Int) * 4503599627370496 + 9007199254740991 = M by omega] at hU
  have hp := sc_one_pos u
  have e : sc 1 1024 = 9007199254740992 * sc 1 u := by
    have := sc_shift 1 u 53 (by omega)
    rw [show u + ((53 : Nat) : Int) = 1024 by omega, show (1 : Int) * 2 ^ 53 = 9007199254740992 by decide, sc_mul1] at this
    exact this.symm
  rw [hU.1, e]
  omega
theorem val_eq {x : Int} (h : fi x) : val x = sgm (F.sgn x) (U (x % 9223372036854775808)) := (of_p h.1 h.2.1 h.2.2).2.2.1
theorem of_fit {x : Int} (h : fi x) : (OfD x).e = 0 ∧ Fit (OfD x).d 1 := by
  obtain ⟨h1, h2, h3, h4⟩ := of_p h.1 h.2.1 h.2.2
  have u0 := U_pos (r := x % 9223372036854775808) (by omega)
  have u1 := U_le (r := x % 9223372036854775808) (s := 9218868437227405311) (by omega) h4
  have u2 := Int.le_trans u1 (U_max rfl)
  refine ⟨h1, h2, ?_, ?_, ?_⟩
  · unfold OfD at h1 ⊢
    rw [if_neg h.2.2] at h1 ⊢
    exact fin_x' h1 (by unfold F.ulp; split <;> omega)
  · rw [h3]; unfold sgm; split <;> omega
  · rw [h3]; unfold sgm; split <;> omega
/-- the sum of a list, by Dyads and by values -/
def tot : List Int → Dy → Dy
  | [], d => d
  | x :: t, d => tot t (DC.Add d (OfD x).d).d
def vs : List Int → Int
  | [] => 0
  | x :: t => val x + vs t
def hN (L : List Int) : Bool := L.any fun x => F.cls x == 5
def hP (L : List Int) : Bool := L.any fun x => x == 9218868437227405312
def hM (L : List Int) : Bool := L.any fun x => x == 18442240474082181120
theorem cls_fi {x : Int} : F.cls x ≠ 5 ∧ F.cls x ≠ 4 ↔ F.exq x ≠ 2047 := by
  have := F.exq_bd x
  unfold F.cls
  constructor
  · rintro ⟨h1, h2⟩ h
    rw [if_neg (by omega), if_neg (by omega)] at h1 h2
    by_cases h3 : F.fra x = 0
    · rw [if_pos h3] at h2; exact h2 rfl
    · rw [if_neg h3] at h1; exact h1 rfl
  · intro h
    by_cases h0 : F.exq x = 0
    · rw [if_pos h0]; split <;> omega
    · rw [if_neg h0, if_pos (by omega)]; omega
def u64s (L : List Int) : Prop := ∀ x ∈ L, 0 ≤ x ∧ x ≤ 18446744073709551615
/-- zeros -/
def sm (L : List Int) : Bool := L.all fun x => x == L.headD 0
end SC
end Go.Proofs.YtpmpkllpaceloaaDoor

/-
  Package sum, pure: what the laws ask.
-/
namespace Go.Proofs.YtpmpkllpaceloaaDoor
set_option linter.unusedVariables false
set_option linter.unusedSimpArgs false
open Go.RowKit
set_option linter.unusedVariables false
set_option linter.unusedSimpArgs false
namespace SC
open L NC NK DC RC
/-- values -/
theorem fi_mod {x : Int} (h : fi x) : x % 9223372036854775808 ≤ 9218868437227405311 := (of_p h.1 h.2.1 h.2.2).2.2.2
theorem fi_of {x : Int} (h0 : 0 ≤ x) (h1 : x ≤ 18446744073709551615) (h : x % 9223372036854775808 ≤ 9218868437227405311) : fi x := ⟨h0, h1, by unfold F.exq; omega⟩
theorem val_rnk {x : Int} (h : fi x) : (0 ≤ F.rnk x → val x = U (F.rnk x)) ∧ (F.rnk x < 0 → val x = -U (-F.rnk x)) := by
  rw [val_eq h]
  have h0 := h.1
  have h1 := h.2.1
  have hs := F.sgn_iff x
  have hs' := F.sgn_iff' x
  cases hc : F.sgn x
  · have h2 := hs'.1 hc
    have e : F.rnk x = x := by unfold F.rnk; rw [if_pos h2]
    rw [e]
    refine ⟨fun _ => ?_, fun h => by omega⟩
    unfold sgm
    rw [show x % 9223372036854775808 = x by omega]; simp
  · have h2 := hs.1 hc
    have e : F.rnk x = 9223372036854775808 - x := by unfold F.rnk; rw [if_neg (by omega)]
    rw [e]
    unfold sgm
    refine ⟨fun h3 => ?_, fun h3 => ?_⟩
    · rw [show x % 9223372036854775808 = 0 by omega, show 9223372036854775808 - x = 0 by omega, U_zero]; simp
    · rw [show x % 9223372036854775808 = -(9223372036854775808 - x) by omega]; simp
theorem val_pos {x : Int} (hx : fi x) (h : 0 ≤ F.rnk x) : 0 ≤ val x := by rw [(val_rnk hx).1 h]; exact U_pos h
theorem val_zero {x : Int} (hx : fi x) (h : val x = 0) : x = 0 ∨ x = 9223372036854775808 := by
  have h0 := hx.1
  have h1 := hx.2.1
  rw [val_eq hx] at h
  have hu : U (x % 9223372036854775808) = 0 := by
    unfold sgm at h
    split at h <;> omega
  have h2 : ¬ 0 < x % 9223372036854775808 := fun h3 => by
    have := U_lt (r := 0) (by omega) h3
    rw [U_zero] at this
    omega
  omega
/-- two numbers -/
theorem u2 {x y : Int} (hx : 0 ≤ x ∧ x ≤ 18446744073709551615) (hy : 0 ≤ y ∧ y ≤ 18446744073709551615) : u64s [x, y] := by
  intro z hz; simp at hz; rcases hz with rfl | rfl <;> assumption
theorem f2 {x y : Int} (hx : fi x) (hy : fi y) : ∀ z ∈ [x, y], fi z := by
  intro z hz; simp at hz; rcases hz with rfl | rfl <;> assumption
end SC
end Go.Proofs.YtpmpkllpaceloaaDoor

/-
  Package sum, pure: turned; small ones; Sterbenz; in order; once.
-/
namespace Go.Proofs.YtpmpkllpaceloaaDoor
set_option linter.unusedVariables false
set_option linter.unusedSimpArgs false
open Go.RowKit
set_option linter.unusedVariables false
set_option linter.unusedSimpArgs false
namespace SC
open L NC NK DC RC
/-- what has few bits is a number -/
theorem rep : ∀ (k : Nat) (q : Int), 0 ≤ q → q < 9007199254740992 → ∃ r, 0 ≤ r ∧ V r = q * 2 ^ k := by
  intro k
  induction k with
  | zero =>
    intro q h0 h1
    have := (V_of (k := 0) h0 h1 (.inl rfl)).1
    exact ⟨((0 : Nat) : Int) * 4503599627370496 + q, by omega, this⟩
  | succ k ih =>
    intro q h0 h1
    by_cases h2 : 4503599627370496 ≤ q
    · exact ⟨_, by omega, (V_of (k := k + 1) h0 h1 (.inr h2)).1⟩
    · obtain ⟨r, r0, hr⟩ := ih (2 * q) (by omega) (by omega)
      refine ⟨r, r0, ?_⟩
      rw [hr, Int.pow_succ, Int.mul_comm (2 ^ k) 2, ← Int.mul_assoc, Int.mul_comm q 2]
theorem exact_p {d : Dy} {mode r : Int} (hm : 0 ≤ mode ∧ mode ≤ 4) (h : Ok d) (r0 : 0 ≤ r) (r1 : r ≤ 9218868437227405311) (e : A d = U r) : TL d mode = false ∧ fi (TX d mode) ∧ val (TX d mode) = S d := by
  have t := tow_exact r0 r1
  rw [← e] at t
  obtain ⟨e1, e2, -⟩ := TX_of h hm t
  rw [ry_none] at e1
  have b := rx_bd (b := ng d) r0 (show r ≤ 9218868437227405312 by omega)
  have hmod : rx (ng d) r % 9223372036854775808 = r ∧ F.sgn (rx (ng d) r) = ng d := by
    unfold rx F.neg F.sgn
    cases ng d
    · simp; omega
    · simp; rw [if_pos (by omega)]; omega
  have hf : fi (TX d mode) := by
    rw [e1]
    exact fi_of b.1 b.2.1 (by rw [hmod.1]; omega)
  refine ⟨by rw [e2]; rfl, hf, ?_⟩
  rw [val_eq hf, e1, hmod.1, hmod.2, ← e]
  have a := A_abs d
  rcases Int.lt_or_le (S d) 0 with h1 | h1
  · rw [(a.2 h1).1, (a.2 h1).2]; unfold sgm; simp
  · rw [(a.1 h1).1, (a.1 h1).2]; unfold sgm; simp
/-- the unit of a number -/
theorem unit_ex {x : Int} (h : fi x) : ∃ (k : Nat) (q : Int), 0 ≤ q ∧ q < 9007199254740992 ∧ val x = sgm (F.sgn x) (q * sc 1 (k - 1074)) := by
  have h2 := fi_mod h
  obtain ⟨k, q, e, q0, q1, hc⟩ := r_parts (show 0 ≤ x % 9223372036854775808 by omega)
  refine ⟨k, q, q0, q1, ?_⟩
  rw [val_eq h, e, (U_of q0 q1 hc).1]
theorem rank_of {N a q M E : Int} {k : Nat} (hM : M = 9218868437227405311) (hE : E = sc 1 (k - 1074)) (ha : a = N * E) (hN : 0 ≤ N) (hq : N ≤ q) (q1 : q < 9007199254740992) (hU : a ≤ U M) : ∃ r, 0 ≤ r ∧ r ≤ M ∧ a = U r := by
  obtain ⟨r, r0, hr⟩ := rep k N hN (by omega)
  have e : U r = a := by
    unfold U
    rw [hr, ha, hE, sc_shift _ _ _ (by omega), sc_mul1, show -1074 + (k : Int) = k - 1074 by omega]
  refine ⟨r, r0, ?_, e.symm⟩
  rcases Int.lt_or_le M r with h | h
  · have := U_lt (r := M) (by omega) h
    omega
  · exact h
end SC
end Go.Proofs.YtpmpkllpaceloaaDoor

/-
  Package sum: checkMode, isZero, withoutValue, allSame, zero.
-/
namespace Go.Proofs.YtpmpkllpaceloaaDoor
set_option linter.unusedVariables false
set_option linter.unusedSimpArgs false
open Go.RowKit
set_option linter.unusedVariables false
set_option linter.unusedSimpArgs false
namespace SC
open L NC NK DC RC
end SC
end Go.Proofs.YtpmpkllpaceloaaDoor

/-
  Package sum: exact.
-/
namespace Go.Proofs.YtpmpkllpaceloaaDoor
set_option linter.unusedVariables false
set_option linter.unusedSimpArgs false
open Go.RowKit
set_option linter.unusedVariables false
set_option linter.unusedSimpArgs false
namespace SC
open L NC NK DC RC
/-- what the loop of exact keeps: the result's cell, the total, its value -/
structure EX (w W : World) (b : Bool) (A : Option Addr) (n c : Nat) (x : Int) (d : Dy) : Prop where
  r : Blk W w.heap.size 51 #[.bool false, .slice none 0 0, .int .i64 0]
  t : Blk W (w.heap.size + 1) 51 #[.bool b, .slice A n c, .int .i64 x]
  g : GV W b A n c x d
  b : Below w.heap.size w W
theorem EX.size {w W : World} {b A n c x d} (h : EX w W b A n c x d) : w.heap.size + 1 < W.heap.size := h.t.lt
theorem EX.below {w W W' : World} {b A n c x d} (h : EX w W b A n c x d) (hb : Below W.heap.size W W') : EX w W' b A n c x d :=
  ⟨h.r.below hb (by have := h.size; omega), h.t.below hb h.size, h.g.below hb, h.b.trans (hb.mono h.b.size)⟩
theorem EX.set {w W : World} {b A n c x d b' A' n' c' x' d'} (h : EX w W b A n c x d) (g : GV W b' A' n' c' x' d') :
    EX w (((W.setCell ⟨w.heap.size + 1, 0, none⟩ (.bool b')).setCell ⟨w.heap.size + 1, 1, none⟩ (.slice A' n' c')).setCell ⟨w.heap.size + 1, 2, none⟩ (.int .i64 x')) b' A' n' c' x' d' := by
  refine ⟨?_, Blk3 h.t _ _ _, g.set3 h.t _ _ _ (by intro z h; cases h) (by intro z h; cases h), below3 h.b (by omega) _ _ _⟩
  exact ((h.r.far (by simp) _).far (by simp) _).far (by simp) _
end SC
end Go.Proofs.YtpmpkllpaceloaaDoor

/-
  Package sum: All.
-/
namespace Go.Proofs.YtpmpkllpaceloaaDoor
set_option linter.unusedVariables false
set_option linter.unusedSimpArgs false
open Go.RowKit
set_option linter.unusedVariables false
set_option linter.unusedSimpArgs false
namespace SC
open L NC NK DC RC
/-- what All, Add and Sub tell -/
def ATv (t : Int × Bool × Int) : Value := .tuple #[.int .u64 t.1, .bool t.2.1, .int .i64 t.2.2]
end SC
end Go.Proofs.YtpmpkllpaceloaaDoor

/-
  Package sum: Add, Sub.
-/
namespace Go.Proofs.YtpmpkllpaceloaaDoor
set_option linter.unusedVariables false
set_option linter.unusedSimpArgs false
open Go.RowKit
set_option linter.unusedVariables false
set_option linter.unusedSimpArgs false
namespace SC
open L NC NK DC RC
end SC
end Go.Proofs.YtpmpkllpaceloaaDoor

/-
  Package sum: one and one, pure.
-/
namespace Go.Proofs.YtpmpkllpaceloaaDoor
set_option linter.unusedVariables false
set_option linter.unusedSimpArgs false
open Go.RowKit
set_option linter.unusedVariables false
set_option linter.unusedSimpArgs false
namespace SC
open L NC NK DC RC
end SC
end Go.Proofs.YtpmpkllpaceloaaDoor

/-
  Package sum: one and one, the walk.
-/
namespace Go.Proofs.YtpmpkllpaceloaaDoor
set_option linter.unusedVariables false
set_option linter.unusedSimpArgs false
open Go.RowKit
set_option linter.unusedVariables false
set_option linter.unusedSimpArgs false
namespace SC
open L NC NK DC RC
end SC
end Go.Proofs.YtpmpkllpaceloaaDoor

