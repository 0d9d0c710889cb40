/-
  The library's slices.Sort of []uint64, walked: the median of three, the choice of a pivot. (The count of exchanges lies in a box of the call's own.)
-/
import Derived.Test.YtlcelocjfmclkaaB1
namespace Go.Proofs.Ytlcelocjfmclkaa
open Go.RowKit
set_option linter.unusedVariables false
set_option linter.unusedSimpArgs false
namespace BC
open Go.Sort Go.Lib
abbrev Cq (w0 : World) (g o : Nat) (d : Array Int) (k s : Nat) (W : World) : Prop := Cnt1 (Value.int .u64) w0 g o d k s W
theorem Cq.drewN_ {w0 W : World} {g o k s : Nat} {d : Array Int} (h : Cq w0 g o d k s W) (q : Nat) : Cq w0 g o d k s (W.drewN q) := ⟨SW.drewN h.1 q, h.2.1, h.2.2.1, h.2.2.2.1, h.2.2.2.2⟩
theorem Cq.cells {w0 W : World} {g o k s n : Nat} {d0 d : Array Int} (h : Cq w0 g o d k s W) (R : Rq w0 g o d0) {G : Nat → Int} (hG : ∀ t, G t = d[t]!) (h1 : d0.size = n) (h2 : d.size = n) :
    (∀ t, t < n → W.cell? ⟨g, o + t, none⟩ = some (.int .u64 (G t))) ∧ W.cell? ⟨k, 0, none⟩ = some (.int .i64 s) ∧ W.frozen? ⟨k, 0, none⟩ = false :=
  ⟨(Sq.cells h.1 R hG ⟨h1, h2⟩).1, h.2.1, h.2.2.1⟩
set_option maxRecDepth 100000 in
set_option maxHeartbeats 4000000 in
theorem order2_c (g o c a b k s : Nat) (d0 d : Array Int) (w0 w : World) (R : Rq w0 g o d0) (hs : d0.size = d.size) (C : Cq w0 g o d k s w) (ha : a < d.size) (hb : b < d.size) (hsz : d.size < 4611686018427387904) (hss : s < 1000) :
    Calls Try.prog 68 #[.slice (some ⟨g, o, none⟩) d.size c, .int .i64 a, .int .i64 b, .pointer (some ⟨k, 0, none⟩)] w fun e w' =>
      e = .returned (.tuple #[.int .i64 (order2 ltInt d a b s).1, .int .i64 (order2 ltInt d a b s).2.1]) ∧ Cq w0 g o d k (order2 ltInt d a b s).2.2 w' := by
  have HR := Lib.hid R
  obtain ⟨G, hG⟩ : ∃ G : Nat → Int, ∀ t, G t = d[t]! := ⟨fun t => d[t]!, fun _ => rfl⟩
  obtain ⟨hc, hf, hf2⟩ := Cq.cells C R hG hs rfl
  have HG := Lib.hid hG
  have C0 := Lib.hid C
  clear R C hG
  unfold order2
  rw [← HG.out, ← HG.out]
  cases hl : ltInt (G b) (G a)
  · rw [if_neg (by decide)]
    go_enter Try.func68, Try.ntmps68
    go_wp2
    go_quiet (first | (go_at_call 47; refine Calls.quiet_of_same (Less_c _ _ _)))
    rw [hl]
    go_wp2
    go_ret2
    exact ⟨rfl, C0.out.drewN_ _⟩
  · rw [if_pos rfl]
    go_enter Try.func68, Try.ntmps68
    go_wp2
    go_quiet (first | (go_at_call 47; refine Calls.quiet_of_same (Less_c _ _ _)))
    rw [hl]
    have C1 := Lib.hid (C0.out.drewN_ nq)
    clear hc hf hf2
    generalize w.drewN nq = w2 at C1 ⊢
    obtain ⟨hc, hf, hf2⟩ := Cq.cells C1.out HR.out HG.out hs rfl
    go_wp2
    go_ret2
    exact ⟨rfl, Cnt1.bump C1.out (s + 1)⟩
set_option maxRecDepth 100000 in
set_option maxHeartbeats 4000000 in
theorem median_c (g o c a b c' k s : Nat) (d0 d : Array Int) (w0 w : World) (R : Rq w0 g o d0) (hs : d0.size = d.size) (C : Cq w0 g o d k s w) (ha : a < d.size) (hb : b < d.size) (hc : c' < d.size) (hsz : d.size < 4611686018427387904) (hss : s + 3 < 1000) :
    Calls Try.prog 64 #[.slice (some ⟨g, o, none⟩) d.size c, .int .i64 a, .int .i64 b, .int .i64 c', .pointer (some ⟨k, 0, none⟩)] w fun e w' =>
      e = .returned (.int .i64 (median ltInt d a b c' s).1) ∧ Cq w0 g o d k (median ltInt d a b c' s).2 w' := by
  obtain ⟨x1, y1, s1, e1⟩ : ∃ x y t, order2 ltInt d a b s = (x, y, t) := ⟨_, _, _, rfl⟩
  obtain ⟨x2, y2, s2, e2⟩ : ∃ x y t, order2 ltInt d y1 c' s1 = (x, y, t) := ⟨_, _, _, rfl⟩
  obtain ⟨x3, y3, s3, e3⟩ : ∃ x y t, order2 ltInt d x1 x2 s2 = (x, y, t) := ⟨_, _, _, rfl⟩
  have m1 := order2_lt d s ha hb
  have n1 := order2_swaps d a b s
  rw [e1] at m1 n1
  simp only at m1 n1
  have m2 := order2_lt d s1 m1.2 hc
  have n2 := order2_swaps d y1 c' s1
  rw [e2] at m2 n2
  simp only at m2 n2
  have em : median ltInt d a b c' s = (y3, s3) := by unfold median; simp only [e1, e2, e3]
  have O1 : Hid (∀ W, Cq w0 g o d k s W → Calls Try.prog 68 #[.slice (some ⟨g, o, none⟩) d.size c, .int .i64 a, .int .i64 b, .pointer (some ⟨k, 0, none⟩)] W fun e w' => e = .returned (.tuple #[.int .i64 x1, .int .i64 y1]) ∧ Cq w0 g o d k s1 w') := fun W hW => by
    have := order2_c g o c a b k s d0 d w0 W R hs hW ha hb hsz (by omega)
    rw [e1] at this; exact this
  have O2 : Hid (∀ W, Cq w0 g o d k s1 W → Calls Try.prog 68 #[.slice (some ⟨g, o, none⟩) d.size c, .int .i64 y1, .int .i64 c', .pointer (some ⟨k, 0, none⟩)] W fun e w' => e = .returned (.tuple #[.int .i64 x2, .int .i64 y2]) ∧ Cq w0 g o d k s2 w') := fun W hW => by
    have := order2_c g o c y1 c' k s1 d0 d w0 W R hs hW m1.2 hc hsz (by omega)
    rw [e2] at this; exact this
  have O3 : Hid (∀ W, Cq w0 g o d k s2 W → Calls Try.prog 68 #[.slice (some ⟨g, o, none⟩) d.size c, .int .i64 x1, .int .i64 x2, .pointer (some ⟨k, 0, none⟩)] W fun e w' => e = .returned (.tuple #[.int .i64 x3, .int .i64 y3]) ∧ Cq w0 g o d k s3 w') := fun W hW => by
    have := order2_c g o c x1 x2 k s2 d0 d w0 W R hs hW m1.1 m2.1 hsz (by omega)
    rw [e3] at this; exact this
  rw [em]
  have C0 := Lib.hid C
  clear R C e1 e2 e3 em
  go_enter Try.func64, Try.ntmps64
  go_wp2_with (first
    | (go_at_call 68; (with_reducible refine (O1.out _ C0.out).mono ?_); rintro e w2 ⟨rfl, C1⟩; have C1 := Lib.hid C1)
    | (go_at_call 68; (with_reducible refine (O2.out _ C1.out).mono ?_); rintro e w3 ⟨rfl, C2⟩; have C2 := Lib.hid C2)
    | (go_at_call 68; (with_reducible refine (O3.out _ C2.out).mono ?_); rintro e w4 ⟨rfl, C3⟩; have C3 := Lib.hid C3))
  go_ret
  exact ⟨rfl, C3.out⟩
theorem median_swaps (d : Array Int) (a b c s : Nat) : (median ltInt d a b c s).2 ≤ s + 3 := by
  have h1 := order2_swaps d a b s
  have h2 := order2_swaps d (order2 ltInt d a b s).2.1 c (order2 ltInt d a b s).2.2
  have h3 := order2_swaps d (order2 ltInt d a b s).1 (order2 ltInt d (order2 ltInt d a b s).2.1 c (order2 ltInt d a b s).2.2).1 (order2 ltInt d (order2 ltInt d a b s).2.1 c (order2 ltInt d a b s).2.2).2.2
  unfold median
  simp only
  omega
theorem adjacent_c (g o c a k s : Nat) (d0 d : Array Int) (w0 w : World) (R : Rq w0 g o d0) (hs : d0.size = d.size) (C : Cq w0 g o d k s w) (ha : 1 ≤ a) (hb : a + 1 < d.size) (hsz : d.size < 4611686018427387904) (hss : s + 3 < 1000) :
    Calls Try.prog 63 #[.slice (some ⟨g, o, none⟩) d.size c, .int .i64 a, .pointer (some ⟨k, 0, none⟩)] w fun e w' =>
      e = .returned (.int .i64 (medianAdjacent ltInt d a s).1) ∧ Cq w0 g o d k (medianAdjacent ltInt d a s).2 w' := by
  have M := Lib.hid (median_c g o c (a - 1) a (a + 1) k s d0 d w0 w R hs C (by omega) (by omega) hb hsz hss)
  obtain ⟨m1, m2, em⟩ : ∃ x y, median ltInt d (a - 1) a (a + 1) s = (x, y) := ⟨_, _, rfl⟩
  rw [show medianAdjacent ltInt d a s = (m1, m2) from em]
  rw [em] at M
  obtain ⟨am, hm⟩ : ∃ am, am = a - 1 := ⟨_, rfl⟩
  obtain ⟨ap, hp⟩ : ∃ ap, ap = a + 1 := ⟨_, rfl⟩
  have z1 : (a : Int) - 1 = (am : Int) := by omega
  have z2 : (a : Int) + 1 = (ap : Int) := by omega
  have v1 : IntKind.i64.wrap (am : Int) = am := by rw [IntKind.wrap_i64]; omega
  have v2 : IntKind.i64.wrap (ap : Int) = ap := by rw [IntKind.wrap_i64]; omega
  rw [← hm, ← hp] at M
  clear R C em hm hp
  go_enter Try.func63, Try.ntmps63
  go_wp2_with (go_at_call 64; (with_reducible refine M.out.mono ?_); rintro e w2 ⟨rfl, C1⟩; have C1 := Lib.hid C1)
  go_ret
  exact ⟨rfl, C1.out⟩
/-- what choosePivot tells of the place and the count -/
def tip (x s : Nat) : Nat × Hint := (x, if s = 0 then .increasing else if s = 12 then .decreasing else .unknown)
set_option maxRecDepth 100000 in
set_option maxHeartbeats 8000000 in
theorem pivot_c (g o c a b : Nat) (d0 d : Array Int) (w0 w : World) (R : Rq w0 g o d0) (hs : d0.size = d.size) (S : Sq w0 g o d w) (hab : a + 12 < b) (hb : b ≤ d.size) (hsz : d.size < 4611686018427387904) :
    Calls Try.prog 44 #[.slice (some ⟨g, o, none⟩) d.size c, .int .i64 a, .int .i64 b] w fun e w' =>
      e = .returned (.tuple #[.int .i64 (choosePivot ltInt d a b).1, .int .i64 (hintCode (choosePivot ltInt d a b).2)]) ∧ Sq w0 g o d w' := by
  obtain ⟨l, hl⟩ : ∃ l, l = b - a := ⟨_, rfl⟩
  obtain ⟨f, hf⟩ : ∃ f, f = l / 4 := ⟨_, rfl⟩
  obtain ⟨i, hi⟩ : ∃ i, i = a + f := ⟨_, rfl⟩
  obtain ⟨j, hj⟩ : ∃ j, j = a + f * 2 := ⟨_, rfl⟩
  obtain ⟨m, hm⟩ : ∃ m, m = a + f * 3 := ⟨_, rfl⟩
  have bi : 1 ≤ i ∧ i + 1 < d.size := by omega
  have bj : 1 ≤ j ∧ j + 1 < d.size := by omega
  have bm : 1 ≤ m ∧ m + 1 < d.size := by omega
  have z1 : (b : Int) - (a : Int) = (l : Int) := by omega
  have z2 : ((l : Int)).tdiv 4 = (f : Int) := by rw [Int.tdiv_eq_ediv_of_nonneg (by omega)]; omega
  have z3 : (l : Int) / 4 = (f : Int) := by omega
  have z4 : (a : Int) + (f : Int) = (i : Int) := by omega
  have z5 : (a : Int) + (f : Int) * 2 = (j : Int) := by omega
  have z6 : (a : Int) + (f : Int) * 3 = (m : Int) := by omega
  have l8 : (8 : Int) ≤ (l : Int) := by omega
  have v1 : IntKind.i64.wrap (l : Int) = l := by rw [IntKind.wrap_i64]; omega
  have v2 : IntKind.i64.wrap (f : Int) = f := by rw [IntKind.wrap_i64]; omega
  have v3 : IntKind.i64.wrap (i : Int) = i := by rw [IntKind.wrap_i64]; omega
  have v4 : IntKind.i64.wrap (j : Int) = j := by rw [IntKind.wrap_i64]; omega
  have v5 : IntKind.i64.wrap (m : Int) = m := by rw [IntKind.wrap_i64]; omega
  have v6 : IntKind.i64.wrap ((f : Int) * 2) = (f : Int) * 2 := by rw [IntKind.wrap_i64]; omega
  have v7 : IntKind.i64.wrap ((f : Int) * 3) = (f : Int) * 3 := by rw [IntKind.wrap_i64]; omega
  have C0 : Hid (Cq w0 g o d w.heap.size 0 (w.alloc (.cells #[.int .i64 0] 3))) := Cnt1.start S _
  have HC : Hid (∀ s W, Cq w0 g o d w.heap.size s W → Sq w0 g o d W ∧ W.cell? ⟨w.heap.size, 0, none⟩ = some (.int .i64 s)) := fun s W h => ⟨h.1, h.2.1⟩
  by_cases h50 : 50 ≤ l
  · have h50z : (50 : Int) ≤ (l : Int) := by omega
    obtain ⟨x1, s1, e1⟩ : ∃ x t, medianAdjacent ltInt d i 0 = (x, t) := ⟨_, _, rfl⟩
    obtain ⟨x2, s2, e2⟩ : ∃ x t, medianAdjacent ltInt d j s1 = (x, t) := ⟨_, _, rfl⟩
    obtain ⟨x3, s3, e3⟩ : ∃ x t, medianAdjacent ltInt d m s2 = (x, t) := ⟨_, _, rfl⟩
    obtain ⟨x4, s4, e4⟩ : ∃ x t, median ltInt d x1 x2 x3 s3 = (x, t) := ⟨_, _, rfl⟩
    have n1 := median_swaps d (i - 1) i (i + 1) 0
    have n2 := median_swaps d (j - 1) j (j + 1) s1
    have n3 := median_swaps d (m - 1) m (m + 1) s2
    have n4 := median_swaps d x1 x2 x3 s3
    have p1 := medianAdjacent_mem ltInt d i 0
    have p2 := medianAdjacent_mem ltInt d j s1
    have p3 := medianAdjacent_mem ltInt d m s2
    unfold medianAdjacent at e1 e2 e3 p1 p2 p3
    rw [e1] at n1 p1
    rw [e2] at n2 p2
    rw [e3] at n3 p3
    rw [e4] at n4
    simp only at n1 n2 n3 n4 p1 p2 p3
    have ec : choosePivot ltInt d a b = tip x4 s4 := by
      unfold choosePivot tip medianAdjacent
      simp only [← hl, ← hf, Nat.mul_one, ← hi, ← hj, ← hm]
      rw [if_pos (by omega), if_pos (by omega)]
      simp only [e1, e2, e3, e4]
    have M1 : Hid (∀ W, Cq w0 g o d w.heap.size 0 W → Calls Try.prog 63 #[.slice (some ⟨g, o, none⟩) d.size c, .int .i64 i, .pointer (some ⟨w.heap.size, 0, none⟩)] W fun e w' => e = .returned (.int .i64 x1) ∧ Cq w0 g o d w.heap.size s1 w') := fun W hW => by
      have := adjacent_c g o c i w.heap.size 0 d0 d w0 W R hs hW bi.1 bi.2 hsz (by omega)
      unfold medianAdjacent at this; rw [e1] at this; exact this
    have M2 : Hid (∀ W, Cq w0 g o d w.heap.size s1 W → Calls Try.prog 63 #[.slice (some ⟨g, o, none⟩) d.size c, .int .i64 j, .pointer (some ⟨w.heap.size, 0, none⟩)] W fun e w' => e = .returned (.int .i64 x2) ∧ Cq w0 g o d w.heap.size s2 w') := fun W hW => by
      have := adjacent_c g o c j w.heap.size s1 d0 d w0 W R hs hW bj.1 bj.2 hsz (by omega)
      unfold medianAdjacent at this; rw [e2] at this; exact this
    have M3 : Hid (∀ W, Cq w0 g o d w.heap.size s2 W → Calls Try.prog 63 #[.slice (some ⟨g, o, none⟩) d.size c, .int .i64 m, .pointer (some ⟨w.heap.size, 0, none⟩)] W fun e w' => e = .returned (.int .i64 x3) ∧ Cq w0 g o d w.heap.size s3 w') := fun W hW => by
      have := adjacent_c g o c m w.heap.size s2 d0 d w0 W R hs hW bm.1 bm.2 hsz (by omega)
      unfold medianAdjacent at this; rw [e3] at this; exact this
    have M4 : Hid (∀ W, Cq w0 g o d w.heap.size s3 W → Calls Try.prog 64 #[.slice (some ⟨g, o, none⟩) d.size c, .int .i64 x1, .int .i64 x2, .int .i64 x3, .pointer (some ⟨w.heap.size, 0, none⟩)] W fun e w' => e = .returned (.int .i64 x4) ∧ Cq w0 g o d w.heap.size s4 w') := fun W hW => by
      have := median_c g o c x1 x2 x3 w.heap.size s3 d0 d w0 W R hs hW (by omega) (by omega) (by omega) hsz (by omega)
      rw [e4] at this; exact this
    rw [ec]
    unfold tip
    clear R S hl hf hi hj hm bi bj bm e1 e2 e3 e4 n1 n2 n3 n4 p1 p2 p3 ec
    by_cases q0 : s4 = 0
    · subst q0
      rw [if_pos rfl]
      have hh : hintCode .increasing = 1 := rfl
      rw [hh]
      clear hh
      go_enter Try.func44, Try.ntmps44
      go_wp2_with (first
        | (go_at_call 63; (with_reducible refine (M1.out _ C0.out).mono ?_); rintro e w2 ⟨rfl, C1⟩; have C1 := Lib.hid C1)
        | (go_at_call 63; (with_reducible refine (M2.out _ C1.out).mono ?_); rintro e w3 ⟨rfl, C2⟩; have C2 := Lib.hid C2)
        | (go_at_call 63; (with_reducible refine (M3.out _ C2.out).mono ?_); rintro e w4 ⟨rfl, C3⟩; have C3 := Lib.hid C3)
        | (go_at_call 64; (with_reducible refine (M4.out _ C3.out).mono ?_); rintro e w5 ⟨rfl, C4⟩; have C4 := Lib.hid C4; have hcl := (HC.out _ _ C4.out).2))
      go_ret2
      exact ⟨rfl, (HC.out _ _ C4.out).1⟩
    · rw [if_neg q0]
      by_cases q1 : s4 = 12
      · subst q1
        rw [if_pos rfl]
        have hh : hintCode .decreasing = 2 := rfl
        rw [hh]
        clear hh q0
        go_enter Try.func44, Try.ntmps44
        go_wp2_with (first
          | (go_at_call 63; (with_reducible refine (M1.out _ C0.out).mono ?_); rintro e w2 ⟨rfl, C1⟩; have C1 := Lib.hid C1)
          | (go_at_call 63; (with_reducible refine (M2.out _ C1.out).mono ?_); rintro e w3 ⟨rfl, C2⟩; have C2 := Lib.hid C2)
          | (go_at_call 63; (with_reducible refine (M3.out _ C2.out).mono ?_); rintro e w4 ⟨rfl, C3⟩; have C3 := Lib.hid C3)
          | (go_at_call 64; (with_reducible refine (M4.out _ C3.out).mono ?_); rintro e w5 ⟨rfl, C4⟩; have C4 := Lib.hid C4; have hcl := (HC.out _ _ C4.out).2))
        go_ret2
        exact ⟨rfl, (HC.out _ _ C4.out).1⟩
      · rw [if_neg q1]
        have hh : hintCode .unknown = 0 := rfl
        rw [hh]
        have r0 : ((s4 : Int) == 0) = false := by rw [beq_eq_false_iff_ne]; omega
        have r1 : ((s4 : Int) == 12) = false := by rw [beq_eq_false_iff_ne]; omega
        clear hh q0 q1
        go_enter Try.func44, Try.ntmps44
        go_wp2_with (first
          | (go_at_call 63; (with_reducible refine (M1.out _ C0.out).mono ?_); rintro e w2 ⟨rfl, C1⟩; have C1 := Lib.hid C1)
          | (go_at_call 63; (with_reducible refine (M2.out _ C1.out).mono ?_); rintro e w3 ⟨rfl, C2⟩; have C2 := Lib.hid C2)
          | (go_at_call 63; (with_reducible refine (M3.out _ C2.out).mono ?_); rintro e w4 ⟨rfl, C3⟩; have C3 := Lib.hid C3)
          | (go_at_call 64; (with_reducible refine (M4.out _ C3.out).mono ?_); rintro e w5 ⟨rfl, C4⟩; have C4 := Lib.hid C4; have hcl := (HC.out _ _ C4.out).2))
        go_ret2
        exact ⟨rfl, (HC.out _ _ C4.out).1⟩
  · have h50z : ¬ (50 : Int) ≤ (l : Int) := by omega
    obtain ⟨x4, s4, e4⟩ : ∃ x t, median ltInt d i j m 0 = (x, t) := ⟨_, _, rfl⟩
    have ec : choosePivot ltInt d a b = tip x4 s4 := by
      unfold choosePivot tip medianAdjacent
      simp only [← hl, ← hf, Nat.mul_one, ← hi, ← hj, ← hm]
      rw [if_pos (by omega), if_neg (by omega)]
      simp only [e4]
    have M4 : Hid (∀ W, Cq w0 g o d w.heap.size 0 W → Calls Try.prog 64 #[.slice (some ⟨g, o, none⟩) d.size c, .int .i64 i, .int .i64 j, .int .i64 m, .pointer (some ⟨w.heap.size, 0, none⟩)] W fun e w' => e = .returned (.int .i64 x4) ∧ Cq w0 g o d w.heap.size s4 w') := fun W hW => by
      have := median_c g o c i j m w.heap.size 0 d0 d w0 W R hs hW (by omega) (by omega) (by omega) hsz (by omega)
      rw [e4] at this; exact this
    rw [ec]
    unfold tip
    clear R S hl hf hi hj hm bi bj bm e4 ec
    by_cases q0 : s4 = 0
    · subst q0
      rw [if_pos rfl]
      have hh : hintCode .increasing = 1 := rfl
      rw [hh]
      clear hh
      go_enter Try.func44, Try.ntmps44
      go_wp2_with (first
        | (go_at_call 64; (with_reducible refine (M4.out _ C0.out).mono ?_); rintro e w5 ⟨rfl, C4⟩; have C4 := Lib.hid C4; have hcl := (HC.out _ _ C4.out).2))
      go_ret2
      exact ⟨rfl, (HC.out _ _ C4.out).1⟩
    · rw [if_neg q0]
      by_cases q1 : s4 = 12
      · subst q1
        rw [if_pos rfl]
        have hh : hintCode .decreasing = 2 := rfl
        rw [hh]
        clear hh q0
        go_enter Try.func44, Try.ntmps44
        go_wp2_with (first
          | (go_at_call 64; (with_reducible refine (M4.out _ C0.out).mono ?_); rintro e w5 ⟨rfl, C4⟩; have C4 := Lib.hid C4; have hcl := (HC.out _ _ C4.out).2))
        go_ret2
        exact ⟨rfl, (HC.out _ _ C4.out).1⟩
      · rw [if_neg q1]
        have hh : hintCode .unknown = 0 := rfl
        rw [hh]
        have r0 : ((s4 : Int) == 0) = false := by rw [beq_eq_false_iff_ne]; omega
        have r1 : ((s4 : Int) == 12) = false := by rw [beq_eq_false_iff_ne]; omega
        clear hh q0 q1
        go_enter Try.func44, Try.ntmps44
        go_wp2_with (first
          | (go_at_call 64; (with_reducible refine (M4.out _ C0.out).mono ?_); rintro e w5 ⟨rfl, C4⟩; have C4 := Lib.hid C4; have hcl := (HC.out _ _ C4.out).2))
        go_ret2
        exact ⟨rfl, (HC.out _ _ C4.out).1⟩
end BC
end Go.Proofs.Ytlcelocjfmclkaa
