/-
  The reference's whole numbers: both together (ZAdd), and the difference (ZSub).
-/
import Derived.Test.YtjihapnplfdmmaaZ3
import Derived.Deep.DeepCutAuto
namespace Go.Proofs.Ytjihapnplfdmmaa
open Go.RowKit
set_option linter.unusedVariables false
namespace ZC
open Z
/-- what both boxes hold behind the exchange -/
structure AddIn (w : World) (z : Int) (x y : Bool) (A : Option Addr) (n c : Nat) (B : Option Addr) (m d : Nat) (X Y : List Int) : Prop where
  sx : Sl .i64 w (.slice A n c) X
  sy : Sl .i64 w (.slice B m d) Y
  dx : Dig X
  dy : Dig Y
  nx : n = X.length
  ny : m = Y.length
  bx : n ≤ 1000000
  bY : m ≤ 1000000
  sum : sg x (val X) + sg y (val Y) = z
  ge : x ≠ y → val Y ≤ val X
set_option maxRecDepth 100000 in
set_option maxHeartbeats 8000000 in
theorem ZAdd_c (va vb : Value) (a b : Int) (w : World) (ha : ZV w va a) (hb : ZV w vb b) (bA : a.natAbs < big 1000000) (bB : b.natAbs < big 1000000) :
    Calls Try.prog 14 #[va, vb] w (RetZ w (a + b)) := by
  obtain ⟨x, A, n, c, rfl, ha⟩ := ha
  obtain ⟨y, B, m, d, rfl, hb⟩ := hb
  have lA := ha.len bA
  have lB := hb.len bB
  obtain ⟨hx, X, hn, hs, dX, zX, vX⟩ := ha
  obtain ⟨hy, Y, hm, ht, dY, zY, vY⟩ := hb
  have hin : AddIn w (a + b) x y A n c B m d X Y ∨ (val X < val Y ∧ x ≠ y) := by
    by_cases h : x ≠ y ∧ val X < val Y
    · exact .inr ⟨h.2, h.1⟩
    · refine .inl ⟨hs, ht, dX, dY, hn, hm, lA, lB, ?_, fun h1 => by have : ¬ val X < val Y := fun h2 => h ⟨h1, h2⟩; omega⟩
      rw [vX, vY, hx, hy]; by_cases h1 : a < 0 <;> by_cases h2 : b < 0 <;> simp [sg, h1, h2] <;> omega
  have hin2 : val X < val Y → AddIn w (a + b) y x B m d A n c Y X := fun h => ⟨ht, hs, dY, dX, hm, hn, lB, lA, by
      rw [vX, vY, hx, hy]; by_cases h1 : a < 0 <;> by_cases h2 : b < 0 <;> simp [sg, h1, h2] <;> omega, fun _ => by omega⟩
  have hin1 : ¬ val X < val Y → AddIn w (a + b) x y A n c B m d X Y := fun h => hin.resolve_right fun h2 => h h2.1
  have HIN := Lib.hid hin
  have HIN1 := Lib.hid hin1
  have HIN2 := Lib.hid hin2
  have SZ := Lib.hid (fun W (h1 : Sl .i64 W (.slice A n c) X) (h2 : Sl .i64 W (.slice B m d) Y) => size_c _ _ X Y W h1 h2 dX dY zX zY (by omega) (by omega))
  have HS := Lib.hid hs
  have HT := Lib.hid ht
  clear hin hin1 hin2 hs ht dX dY zX zY vX vY hx hy hn hm bA bB
  go_enter Try.func14, Try.ntmps14
  go_upto_if 13 with fail
  go_cut [2] (fun s2 wx => s2 = .pointer (some ⟨w.heap.size, 0, none⟩) ∧ ∃ x y A n c B m d X Y, Hid (AddIn w (a + b) x y A n c B m d X Y) ∧ Blk wx w.heap.size 34 #[.bool x, .slice A n c] ∧ Blk wx (w.heap.size + 1) 34 #[.bool y, .slice B m d] ∧
    Blk wx (w.heap.size + 2) 34 #[.bool false, .slice none 0 0] ∧ wx.heap.size = w.heap.size + 3 ∧ Below w.heap.size w wx)
  case first =>
    cases x <;> cases y
    · go_wp2
      go_meet
      exact ⟨rfl, _, _, A, n, c, B, m, d, X, Y, HIN.out.resolve_right (fun h => h.2 rfl), new3 w _ _ _ _ _ _ 0⟩
    · by_cases hlt : val X < val Y
      · rw [cmpv_lt hlt] at SZ
        go_wp2_with (first | (go_at_call 28; (with_reducible refine (SZ.out _ (((HS.out.alloc _).alloc _).alloc _) (((HT.out.alloc _).alloc _).alloc _)).mono ?_); rintro e w' ⟨rfl, q, rfl⟩))
        go_meet
        exact ⟨rfl, _, _, B, m, d, A, n, c, Y, X, HIN2.out hlt, swap2 (new3 w _ _ _ _ _ _ q)⟩
      · have S2 := Lib.hid SZ
        have cb := cmpv_ge0 hlt
        go_wp2_with (first | (go_at_call 28; (with_reducible refine (SZ.out _ (((HS.out.alloc _).alloc _).alloc _) (((HT.out.alloc _).alloc _).alloc _)).mono ?_); rintro e w' ⟨rfl, q, rfl⟩))
        go_meet
        exact ⟨rfl, _, _, A, n, c, B, m, d, X, Y, HIN1.out hlt, new3 w _ _ _ _ _ _ q⟩
    · by_cases hlt : val X < val Y
      · rw [cmpv_lt hlt] at SZ
        go_wp2_with (first | (go_at_call 28; (with_reducible refine (SZ.out _ (((HS.out.alloc _).alloc _).alloc _) (((HT.out.alloc _).alloc _).alloc _)).mono ?_); rintro e w' ⟨rfl, q, rfl⟩))
        go_meet
        exact ⟨rfl, _, _, B, m, d, A, n, c, Y, X, HIN2.out hlt, swap2 (new3 w _ _ _ _ _ _ q)⟩
      · have S2 := Lib.hid SZ
        have cb := cmpv_ge0 hlt
        go_wp2_with (first | (go_at_call 28; (with_reducible refine (SZ.out _ (((HS.out.alloc _).alloc _).alloc _) (((HT.out.alloc _).alloc _).alloc _)).mono ?_); rintro e w' ⟨rfl, q, rfl⟩))
        go_meet
        exact ⟨rfl, _, _, A, n, c, B, m, d, X, Y, HIN1.out hlt, new3 w _ _ _ _ _ _ q⟩
    · go_wp2
      go_meet
      exact ⟨rfl, _, _, A, n, c, B, m, d, X, Y, HIN.out.resolve_right (fun h => h.2 rfl), new3 w _ _ _ _ _ _ 0⟩
  case rest =>
    obtain ⟨rfl, x, y, A, n, c, B, m, d, X, Y, hin, hb0, hb1, hb2, hsz, hbw⟩ := hcut
    have p0 := hb0.at_ 0 rfl
    have hnm : n ≤ 1000000 ∧ m ≤ 1000000 := ⟨hin.out.bx, hin.out.bY⟩
    obtain ⟨M, hM1, hM2, hM3, hM4⟩ : ∃ M, n ≤ M ∧ m ≤ M ∧ (M ≤ n ∨ M ≤ m) ∧ M ≤ 1000000 := by
      rcases Nat.le_total n m with h | h
      · exact ⟨m, h, Nat.le_refl _, .inr (Nat.le_refl _), hnm.2⟩
      · exact ⟨n, Nat.le_refl _, h, .inl (Nat.le_refl _), hnm.1⟩
    obtain ⟨s, hs⟩ : ∃ s, s = (x == y) := ⟨_, rfl⟩
    have HSS := Lib.hid hs
    have hs' := hs.symm
    clear hs
    cases s
    · go_wp2
      go_loopw [6, 7] (fun cv kv wr => ∃ (k : Nat) (cc : Int) (L : List Int) (A' : Option Addr) (k' c' : Nat), cv = .int .i64 cc ∧ kv = .int .i64 k ∧ Hid (AddI false X Y k cc L) ∧ (-1 ≤ cc ∧ cc ≤ 1) ∧ (k ≤ M ∨ k = M + 1 ∧ cc ≤ 0) ∧ Hid (k' = k) ∧ Own .i64 3 wr (w.heap.size + 4) (.slice A' k' c') L ∧
        Blk wr w.heap.size 34 #[.bool x, .slice A n c] ∧ Blk wr (w.heap.size + 1) 34 #[.bool y, .slice B m d] ∧ Blk wr (w.heap.size + 2) 34 #[.bool false, .slice none 0 0] ∧ Blk wr (w.heap.size + 3) 34 #[.bool x, .slice A' k' c'] ∧ Below w.heap.size w wr)
        (fun cv kv _ => mu M (intOf kv) (intOf cv))
      case atStart =>
        refine ⟨0, 0, [], none, 0, 0, rfl, rfl, AddI.start _ _ _, by omega, by omega, rfl, Own.nil _ _ _ _, hb0.alloc _, hb1.alloc _, hb2.alloc _, ?_, hbw.alloc (by omega) _⟩
        have := Blk.new wc 34 #[.bool x, .slice none 0 0]
        rw [hsz] at this
        exact this
      case round =>
        obtain ⟨k, cc, L, A', k', c', rfl, rfl, hI, hcc, hkM, hk', hown, hb0, hb1, hb2, hb3, hbw⟩ := hrel
        have hcs := hI.out.cd rfl
        have p00 := hb0.at_ 0 rfl
        have p01 := hb0.at_ 1 rfl
        have p10 := hb1.at_ 0 rfl
        have p11 := hb1.at_ 1 rfl
        have p31 := hb3.at_ 1 rfl
        have f31 := hb3.frozen 1
        have hsz3 := hb3.lt
        by_cases hka : k < n
        · by_cases hkb : k < m
          · obtain ⟨adx, cx, ex, _, _, hcx⟩ := (hin.out.sx.below hbw).at_ k (by rw [← hin.out.nx]; exact hka)
            injection ex with ex1 ex2 ex3
            subst ex1
            obtain ⟨xa, hxa⟩ : ∃ xa, X.getD k 0 = xa := ⟨_, rfl⟩
            rw [hxa] at hcx
            have bx := getD_dig hin.out.dx k
            rw [hxa] at bx
            have HX := Lib.hid hxa
            clear hxa ex2 ex3
            obtain ⟨ady, cy, ey, _, _, hcy⟩ := (hin.out.sy.below hbw).at_ k (by rw [← hin.out.ny]; exact hkb)
            injection ey with ey1 ey2 ey3
            subst ey1
            obtain ⟨yb, hyb⟩ : ∃ yb, Y.getD k 0 = yb := ⟨_, rfl⟩
            rw [hyb] at hcy
            have bY := getD_dig hin.out.dy k
            rw [hyb] at bY
            have HY := Lib.hid hyb
            clear hyb ey2 ey3
            go_wp2_with (at_builtin; refine app1 el_int rfl _ _ rfl rfl hown _ rfl (by have := hI.out.len; omega) (by omega) ?_; intro A2 k2 c2 w2 hk2 hown2 hg2 hat2; have q3 := hb3.grown hg2 (hown.ne hb3 (by decide)); have r1 := q3.at_ 1 rfl; have g1 := q3.frozen 1; clear p00 p01 p10 p11 p31 f31)
            all_goals
              have hlt := hown.lt
              have hbw2 : Below w.heap.size w w2 := hbw.grown hg2 (by omega) (fun g hg => by have := hown.lt g hg; omega)
              have q0 := hb0.grown hg2 (hown.ne hb0 (by decide))
              have q1 := hb1.grown hg2 (hown.ne hb1 (by decide))
              have q2 := hb2.grown hg2 (hown.ne hb2 (by decide))
              clear r1 g1
              go_roundw
              case rel =>
                refine ⟨k + 1, _, _, _, _, _, rfl, by go_num, hI.out.step _ _ (by omega) (by omega) (by omega) (by omega) (by intro h; first | omega | cases h) (by intro h; first | omega | cases h) (by simp only [HX.out, HY.out, Bool.false_eq_true, if_false]; omega), by omega, by omega, hk2.out.trans (by rw [hI.out.len]), hown2.low (by simp) _, q0.far (by simp) _, q1.far (by simp) _, q2.far (by simp) _, ?_, hbw2.setCell (by simp) _⟩
                simpa using q3.set_ 1 (.slice A2 k2 c2)
              case measure => exact mu_lt (by omega)
          · obtain ⟨adx, cx, ex, _, _, hcx⟩ := (hin.out.sx.below hbw).at_ k (by rw [← hin.out.nx]; exact hka)
            injection ex with ex1 ex2 ex3
            subst ex1
            obtain ⟨xa, hxa⟩ : ∃ xa, X.getD k 0 = xa := ⟨_, rfl⟩
            rw [hxa] at hcx
            have bx := getD_dig hin.out.dx k
            rw [hxa] at bx
            have HX := Lib.hid hxa
            clear hxa ex2 ex3
            have HY := Lib.hid (getD_out (show Y.length ≤ k by rw [← hin.out.ny]; omega))
            go_wp2_with (at_builtin; refine app1 el_int rfl _ _ rfl rfl hown _ rfl (by have := hI.out.len; omega) (by omega) ?_; intro A2 k2 c2 w2 hk2 hown2 hg2 hat2; have q3 := hb3.grown hg2 (hown.ne hb3 (by decide)); have r1 := q3.at_ 1 rfl; have g1 := q3.frozen 1; clear p00 p01 p10 p11 p31 f31)
            all_goals
              have hlt := hown.lt
              have hbw2 : Below w.heap.size w w2 := hbw.grown hg2 (by omega) (fun g hg => by have := hown.lt g hg; omega)
              have q0 := hb0.grown hg2 (hown.ne hb0 (by decide))
              have q1 := hb1.grown hg2 (hown.ne hb1 (by decide))
              have q2 := hb2.grown hg2 (hown.ne hb2 (by decide))
              clear r1 g1
              go_roundw
              case rel =>
                refine ⟨k + 1, _, _, _, _, _, rfl, by go_num, hI.out.step _ _ (by omega) (by omega) (by omega) (by omega) (by intro h; first | omega | cases h) (by intro h; first | omega | cases h) (by simp only [HX.out, HY.out, Bool.false_eq_true, if_false]; omega), by omega, by omega, hk2.out.trans (by rw [hI.out.len]), hown2.low (by simp) _, q0.far (by simp) _, q1.far (by simp) _, q2.far (by simp) _, ?_, hbw2.setCell (by simp) _⟩
                simpa using q3.set_ 1 (.slice A2 k2 c2)
              case measure => exact mu_lt (by omega)
        · by_cases hkb : k < m
          · have HX := Lib.hid (getD_out (show X.length ≤ k by rw [← hin.out.nx]; omega))
            obtain ⟨ady, cy, ey, _, _, hcy⟩ := (hin.out.sy.below hbw).at_ k (by rw [← hin.out.ny]; exact hkb)
            injection ey with ey1 ey2 ey3
            subst ey1
            obtain ⟨yb, hyb⟩ : ∃ yb, Y.getD k 0 = yb := ⟨_, rfl⟩
            rw [hyb] at hcy
            have bY := getD_dig hin.out.dy k
            rw [hyb] at bY
            have HY := Lib.hid hyb
            clear hyb ey2 ey3
            go_wp2_with (at_builtin; refine app1 el_int rfl _ _ rfl rfl hown _ rfl (by have := hI.out.len; omega) (by omega) ?_; intro A2 k2 c2 w2 hk2 hown2 hg2 hat2; have q3 := hb3.grown hg2 (hown.ne hb3 (by decide)); have r1 := q3.at_ 1 rfl; have g1 := q3.frozen 1; clear p00 p01 p10 p11 p31 f31)
            all_goals
              have hlt := hown.lt
              have hbw2 : Below w.heap.size w w2 := hbw.grown hg2 (by omega) (fun g hg => by have := hown.lt g hg; omega)
              have q0 := hb0.grown hg2 (hown.ne hb0 (by decide))
              have q1 := hb1.grown hg2 (hown.ne hb1 (by decide))
              have q2 := hb2.grown hg2 (hown.ne hb2 (by decide))
              clear r1 g1
              go_roundw
              case rel =>
                refine ⟨k + 1, _, _, _, _, _, rfl, by go_num, hI.out.step _ _ (by omega) (by omega) (by omega) (by omega) (by intro h; first | omega | cases h) (by intro h; first | omega | cases h) (by simp only [HX.out, HY.out, Bool.false_eq_true, if_false]; omega), by omega, by omega, hk2.out.trans (by rw [hI.out.len]), hown2.low (by simp) _, q0.far (by simp) _, q1.far (by simp) _, q2.far (by simp) _, ?_, hbw2.setCell (by simp) _⟩
                simpa using q3.set_ 1 (.slice A2 k2 c2)
              case measure => exact mu_lt (by omega)
          · by_cases hcp : 0 < cc
            · exact absurd hcp (by omega)
            · have hc0 : cc ≤ 0 := by omega
              have hv := hI.out.done (by rw [← hin.out.nx]; omega) (by rw [← hin.out.ny]; omega) hc0 (by first | (intro h; cases h; done) | (intro _; exact hin.out.ge (by intro h; subst h; simp at hs')))
              have hz : sg x (val L) = a + b := by
                rw [hv, ← hin.out.sum]
                first | (simp only [if_true]; obtain rfl : x = y := by simpa using hs') | (simp only [Bool.false_eq_true, if_false]; have hne : x ≠ y := by intro h; subst h; simp at hs')
                all_goals (cases x <;> (try cases y) <;> simp [sg] at * <;> omega)
              have TR := trim_c x A' k' c' L wr hown.sl hI.out.dig (by have := hI.out.len; omega)
              rw [hz] at TR
              have TR' := Lib.hid TR
              have p30 := hb3.at_ 0 rfl
              have r20 := hb2.at_ 0 rfl
              have r21 := hb2.at_ 1 rfl
              have s20 := hb2.frozen 0
              have s21 := hb2.frozen 1
              have hsz2 := hb2.lt
              clear TR hz hv
              go_wp2_with (first | (go_at_call 29; (with_reducible refine (TR'.out).mono ?_); rintro e w9 ⟨b9, n9, rfl, hm9, hv9, hb9⟩ ; obtain ⟨hc9, hf9⟩ := bcell hb9 ; have hz9 := hb9.size))
              have t0 : w9.cell? ⟨w.heap.size + 2, 0, none⟩ = some (.bool false) := (hb9.cell hsz2).trans r20
              have t1 : w9.cell? ⟨w.heap.size + 2, 1, none⟩ = some (.slice none 0 0) := (hb9.cell (p := ⟨w.heap.size + 2, 1, none⟩) hsz2).trans r21
              exact bodyPost_ret (v := .agg #[.bool b9, .slice A' n9 c']) (by simp [results, Try.results14, go_sem, t0, t1]) rfl (RetZ.cell (B0 := w.heap.size + 4) ⟨hv9, Fr.shrink hown.at_least hm9⟩ (by omega) (by omega) t0 t1 (hbw.trans (hb9.mono hbw.size)))
    · go_wp2
      go_loopw [6, 7] (fun cv kv wr => ∃ (k : Nat) (cc : Int) (L : List Int) (A' : Option Addr) (k' c' : Nat), cv = .int .i64 cc ∧ kv = .int .i64 k ∧ Hid (AddI true X Y k cc L) ∧ (-1 ≤ cc ∧ cc ≤ 1) ∧ (k ≤ M ∨ k = M + 1 ∧ cc ≤ 0) ∧ Hid (k' = k) ∧ Own .i64 3 wr (w.heap.size + 4) (.slice A' k' c') L ∧
        Blk wr w.heap.size 34 #[.bool x, .slice A n c] ∧ Blk wr (w.heap.size + 1) 34 #[.bool y, .slice B m d] ∧ Blk wr (w.heap.size + 2) 34 #[.bool false, .slice none 0 0] ∧ Blk wr (w.heap.size + 3) 34 #[.bool x, .slice A' k' c'] ∧ Below w.heap.size w wr)
        (fun cv kv _ => mu M (intOf kv) (intOf cv))
      case atStart =>
        refine ⟨0, 0, [], none, 0, 0, rfl, rfl, AddI.start _ _ _, by omega, by omega, rfl, Own.nil _ _ _ _, hb0.alloc _, hb1.alloc _, hb2.alloc _, ?_, hbw.alloc (by omega) _⟩
        have := Blk.new wc 34 #[.bool x, .slice none 0 0]
        rw [hsz] at this
        exact this
      case round =>
        obtain ⟨k, cc, L, A', k', c', rfl, rfl, hI, hcc, hkM, hk', hown, hb0, hb1, hb2, hb3, hbw⟩ := hrel
        have hcs := hI.out.cs rfl
        have p00 := hb0.at_ 0 rfl
        have p01 := hb0.at_ 1 rfl
        have p10 := hb1.at_ 0 rfl
        have p11 := hb1.at_ 1 rfl
        have p31 := hb3.at_ 1 rfl
        have f31 := hb3.frozen 1
        have hsz3 := hb3.lt
        by_cases hka : k < n
        · by_cases hkb : k < m
          · obtain ⟨adx, cx, ex, _, _, hcx⟩ := (hin.out.sx.below hbw).at_ k (by rw [← hin.out.nx]; exact hka)
            injection ex with ex1 ex2 ex3
            subst ex1
            obtain ⟨xa, hxa⟩ : ∃ xa, X.getD k 0 = xa := ⟨_, rfl⟩
            rw [hxa] at hcx
            have bx := getD_dig hin.out.dx k
            rw [hxa] at bx
            have HX := Lib.hid hxa
            clear hxa ex2 ex3
            obtain ⟨ady, cy, ey, _, _, hcy⟩ := (hin.out.sy.below hbw).at_ k (by rw [← hin.out.ny]; exact hkb)
            injection ey with ey1 ey2 ey3
            subst ey1
            obtain ⟨yb, hyb⟩ : ∃ yb, Y.getD k 0 = yb := ⟨_, rfl⟩
            rw [hyb] at hcy
            have bY := getD_dig hin.out.dy k
            rw [hyb] at bY
            have HY := Lib.hid hyb
            clear hyb ey2 ey3
            go_wp2_with (at_builtin; refine app1 el_int rfl _ _ rfl rfl hown _ rfl (by have := hI.out.len; omega) (by omega) ?_; intro A2 k2 c2 w2 hk2 hown2 hg2 hat2; have q3 := hb3.grown hg2 (hown.ne hb3 (by decide)); have r1 := q3.at_ 1 rfl; have g1 := q3.frozen 1; clear p00 p01 p10 p11 p31 f31)
            all_goals
              have hlt := hown.lt
              have hbw2 : Below w.heap.size w w2 := hbw.grown hg2 (by omega) (fun g hg => by have := hown.lt g hg; omega)
              have q0 := hb0.grown hg2 (hown.ne hb0 (by decide))
              have q1 := hb1.grown hg2 (hown.ne hb1 (by decide))
              have q2 := hb2.grown hg2 (hown.ne hb2 (by decide))
              clear r1 g1
              go_roundw
              case rel =>
                refine ⟨k + 1, _, _, _, _, _, rfl, by go_num, hI.out.step _ _ (by omega) (by omega) (by omega) (by omega) (by intro h; first | omega | cases h) (by intro h; first | omega | cases h) (by simp only [HX.out, HY.out, if_true]; omega), by omega, by omega, hk2.out.trans (by rw [hI.out.len]), hown2.low (by simp) _, q0.far (by simp) _, q1.far (by simp) _, q2.far (by simp) _, ?_, hbw2.setCell (by simp) _⟩
                simpa using q3.set_ 1 (.slice A2 k2 c2)
              case measure => exact mu_lt (by omega)
          · obtain ⟨adx, cx, ex, _, _, hcx⟩ := (hin.out.sx.below hbw).at_ k (by rw [← hin.out.nx]; exact hka)
            injection ex with ex1 ex2 ex3
            subst ex1
            obtain ⟨xa, hxa⟩ : ∃ xa, X.getD k 0 = xa := ⟨_, rfl⟩
            rw [hxa] at hcx
            have bx := getD_dig hin.out.dx k
            rw [hxa] at bx
            have HX := Lib.hid hxa
            clear hxa ex2 ex3
            have HY := Lib.hid (getD_out (show Y.length ≤ k by rw [← hin.out.ny]; omega))
            go_wp2_with (at_builtin; refine app1 el_int rfl _ _ rfl rfl hown _ rfl (by have := hI.out.len; omega) (by omega) ?_; intro A2 k2 c2 w2 hk2 hown2 hg2 hat2; have q3 := hb3.grown hg2 (hown.ne hb3 (by decide)); have r1 := q3.at_ 1 rfl; have g1 := q3.frozen 1; clear p00 p01 p10 p11 p31 f31)
            all_goals
              have hlt := hown.lt
              have hbw2 : Below w.heap.size w w2 := hbw.grown hg2 (by omega) (fun g hg => by have := hown.lt g hg; omega)
              have q0 := hb0.grown hg2 (hown.ne hb0 (by decide))
              have q1 := hb1.grown hg2 (hown.ne hb1 (by decide))
              have q2 := hb2.grown hg2 (hown.ne hb2 (by decide))
              clear r1 g1
              go_roundw
              case rel =>
                refine ⟨k + 1, _, _, _, _, _, rfl, by go_num, hI.out.step _ _ (by omega) (by omega) (by omega) (by omega) (by intro h; first | omega | cases h) (by intro h; first | omega | cases h) (by simp only [HX.out, HY.out, if_true]; omega), by omega, by omega, hk2.out.trans (by rw [hI.out.len]), hown2.low (by simp) _, q0.far (by simp) _, q1.far (by simp) _, q2.far (by simp) _, ?_, hbw2.setCell (by simp) _⟩
                simpa using q3.set_ 1 (.slice A2 k2 c2)
              case measure => exact mu_lt (by omega)
        · by_cases hkb : k < m
          · have HX := Lib.hid (getD_out (show X.length ≤ k by rw [← hin.out.nx]; omega))
            obtain ⟨ady, cy, ey, _, _, hcy⟩ := (hin.out.sy.below hbw).at_ k (by rw [← hin.out.ny]; exact hkb)
            injection ey with ey1 ey2 ey3
            subst ey1
            obtain ⟨yb, hyb⟩ : ∃ yb, Y.getD k 0 = yb := ⟨_, rfl⟩
            rw [hyb] at hcy
            have bY := getD_dig hin.out.dy k
            rw [hyb] at bY
            have HY := Lib.hid hyb
            clear hyb ey2 ey3
            go_wp2_with (at_builtin; refine app1 el_int rfl _ _ rfl rfl hown _ rfl (by have := hI.out.len; omega) (by omega) ?_; intro A2 k2 c2 w2 hk2 hown2 hg2 hat2; have q3 := hb3.grown hg2 (hown.ne hb3 (by decide)); have r1 := q3.at_ 1 rfl; have g1 := q3.frozen 1; clear p00 p01 p10 p11 p31 f31)
            all_goals
              have hlt := hown.lt
              have hbw2 : Below w.heap.size w w2 := hbw.grown hg2 (by omega) (fun g hg => by have := hown.lt g hg; omega)
              have q0 := hb0.grown hg2 (hown.ne hb0 (by decide))
              have q1 := hb1.grown hg2 (hown.ne hb1 (by decide))
              have q2 := hb2.grown hg2 (hown.ne hb2 (by decide))
              clear r1 g1
              go_roundw
              case rel =>
                refine ⟨k + 1, _, _, _, _, _, rfl, by go_num, hI.out.step _ _ (by omega) (by omega) (by omega) (by omega) (by intro h; first | omega | cases h) (by intro h; first | omega | cases h) (by simp only [HX.out, HY.out, if_true]; omega), by omega, by omega, hk2.out.trans (by rw [hI.out.len]), hown2.low (by simp) _, q0.far (by simp) _, q1.far (by simp) _, q2.far (by simp) _, ?_, hbw2.setCell (by simp) _⟩
                simpa using q3.set_ 1 (.slice A2 k2 c2)
              case measure => exact mu_lt (by omega)
          · by_cases hcp : 0 < cc
            · have HX := Lib.hid (getD_out (show X.length ≤ k by rw [← hin.out.nx]; omega))
              have HY := Lib.hid (getD_out (show Y.length ≤ k by rw [← hin.out.ny]; omega))
              go_wp2_with (at_builtin; refine app1 el_int rfl _ _ rfl rfl hown _ rfl (by have := hI.out.len; omega) (by omega) ?_; intro A2 k2 c2 w2 hk2 hown2 hg2 hat2; have q3 := hb3.grown hg2 (hown.ne hb3 (by decide)); have r1 := q3.at_ 1 rfl; have g1 := q3.frozen 1; clear p00 p01 p10 p11 p31 f31)
              all_goals
                have hlt := hown.lt
                have hbw2 : Below w.heap.size w w2 := hbw.grown hg2 (by omega) (fun g hg => by have := hown.lt g hg; omega)
                have q0 := hb0.grown hg2 (hown.ne hb0 (by decide))
                have q1 := hb1.grown hg2 (hown.ne hb1 (by decide))
                have q2 := hb2.grown hg2 (hown.ne hb2 (by decide))
                clear r1 g1
                go_roundw
                case rel =>
                  refine ⟨k + 1, _, _, _, _, _, rfl, by go_num, hI.out.step _ _ (by omega) (by omega) (by omega) (by omega) (by intro h; first | omega | cases h) (by intro h; first | omega | cases h) (by simp only [HX.out, HY.out, if_true]; omega), by omega, by omega, hk2.out.trans (by rw [hI.out.len]), hown2.low (by simp) _, q0.far (by simp) _, q1.far (by simp) _, q2.far (by simp) _, ?_, hbw2.setCell (by simp) _⟩
                  simpa using q3.set_ 1 (.slice A2 k2 c2)
                case measure => exact mu_lt (by omega)
            · have hc0 : cc ≤ 0 := by omega
              have hv := hI.out.done (by rw [← hin.out.nx]; omega) (by rw [← hin.out.ny]; omega) hc0 (by first | (intro h; cases h; done) | (intro _; exact hin.out.ge (by intro h; subst h; simp at hs')))
              have hz : sg x (val L) = a + b := by
                rw [hv, ← hin.out.sum]
                first | (simp only [if_true]; obtain rfl : x = y := by simpa using hs') | (simp only [Bool.false_eq_true, if_false]; have hne : x ≠ y := by intro h; subst h; simp at hs')
                all_goals (cases x <;> (try cases y) <;> simp [sg] at * <;> omega)
              have TR := trim_c x A' k' c' L wr hown.sl hI.out.dig (by have := hI.out.len; omega)
              rw [hz] at TR
              have TR' := Lib.hid TR
              have p30 := hb3.at_ 0 rfl
              have r20 := hb2.at_ 0 rfl
              have r21 := hb2.at_ 1 rfl
              have s20 := hb2.frozen 0
              have s21 := hb2.frozen 1
              have hsz2 := hb2.lt
              clear TR hz hv
              go_wp2_with (first | (go_at_call 29; (with_reducible refine (TR'.out).mono ?_); rintro e w9 ⟨b9, n9, rfl, hm9, hv9, hb9⟩ ; obtain ⟨hc9, hf9⟩ := bcell hb9 ; have hz9 := hb9.size))
              have t0 : w9.cell? ⟨w.heap.size + 2, 0, none⟩ = some (.bool false) := (hb9.cell hsz2).trans r20
              have t1 : w9.cell? ⟨w.heap.size + 2, 1, none⟩ = some (.slice none 0 0) := (hb9.cell (p := ⟨w.heap.size + 2, 1, none⟩) hsz2).trans r21
              exact bodyPost_ret (v := .agg #[.bool b9, .slice A' n9 c']) (by simp [results, Try.results14, go_sem, t0, t1]) rfl (RetZ.cell (B0 := w.heap.size + 4) ⟨hv9, Fr.shrink hown.at_least hm9⟩ (by omega) (by omega) t0 t1 (hbw.trans (hb9.mono hbw.size)))
end ZC
end Go.Proofs.Ytjihapnplfdmmaa
