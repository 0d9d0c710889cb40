/-
  DyadForm: the walk.
-/
import Derived.Test.YtnpeokgjfnobmaaDoorM5
namespace Go.Proofs.YtnpeokgjfnobmaaDoor
set_option linter.unusedVariables false
set_option linter.unusedSimpArgs false
open Go.RowKit
set_option linter.unusedVariables false
namespace DC
open L NC NK
open Z (Nz Tz cmpv)
theorem splice_one (l : List Int) : splice ((List.replicate (l.length + 1) (0 : Int)).map (Value.int .u32)) 1 (l.map (Value.int .u32)) = (0 :: l).map (Value.int .u32) := by
  simp [splice, List.replicate_succ]
  omega
theorem wp_copy_one {w : World} {ops : Array Oper} {rest : List Oper} {o : Oper} {a : Act} {Q : Exit → Act → World → Prop} (hgd : o.guard = none) (d s : Operand)
    (ho : o.op = .call { callee := .builtin .copy, args := #[d, s], argTypes := #[22, 22] }) (g N C : Nat) (hd : a.eval d = .slice (some ⟨g, 1, none⟩) N C) (vs : Value) (hs : a.eval s = vs) (l : List Int) (hS : Sl .u32 w vs l) (hl : l.length = N)
    (hg : Row .u32 56 w g (List.replicate (l.length + 1) 0)) (B : Nat) (w0 : World) (hb : Below B w0 w) (hBg : B ≤ g)
    (h : ∀ w', Hid (Row .u32 56 w' g (0 :: l)) → Below B w0 w' → wpList Tryd.prog ops Q rest (a.put o.dst (goInt l.length)) w') : wpList Tryd.prog ops Q (o :: rest) a w := by
  obtain ⟨A, c, rfl, hc, hA⟩ := hS
  refine wpList_copy_splice hgd d s 22 22 ho 56 Tryd.underlying22 (by kernel_rfl) (some ⟨g, 1, none⟩) A N C l.length c hd hs g 1 ((List.replicate (l.length + 1) (0 : Int)).map (Value.int .u32)) 56 hg (l.map (Value.int .u32)) (by rw [List.length_map]; exact (Nat.min_eq_left (Nat.le_of_eq hl)).symm)
    (fun h0 => ⟨rfl, ?_⟩) (by simp; omega) (by intro v hv; obtain ⟨z, _, rfl⟩ := List.mem_map.1 hv; rfl) B w0 hb hBg ?_
  · rcases hA with h1 | ⟨ad, rfl, hb1, hc1⟩
    · subst h1; simp at h0
    · refine ⟨ad, rfl, fun j v hv => ?_⟩
      have hj : j < l.length := by
        rcases Nat.lt_or_ge j l.length with h | h
        · exact h
        · rw [List.getElem?_eq_none (by simpa using h)] at hv; cases hv
      rw [hc1 j hj]
      rw [List.getElem?_map, List.getElem?_eq_getElem hj] at hv
      simpa using hv
  · intro w' hw' hb'
    have hR := hw'.out
    rw [splice_one l] at hR
    have := h w' hR hb'
    simpa using this
theorem wp_copy_zero {w : World} {ops : Array Oper} {rest : List Oper} {o : Oper} {a : Act} {Q : Exit → Act → World → Prop} (hgd : o.guard = none) (d s : Operand)
    (ho : o.op = .call { callee := .builtin .copy, args := #[d, s], argTypes := #[22, 22] }) (dp sp : Option Addr) (n C c : Nat) (hn : n = 0) (hd : a.eval d = .slice dp n C) (hs : a.eval s = .slice sp n c) (B : Nat) (w0 : World) (hb : Below B w0 w)
    (h : ∀ w', Below B w0 w' → wpList Tryd.prog ops Q rest (a.put o.dst (goInt 0)) w') : wpList Tryd.prog ops Q (o :: rest) a w :=
  wpList_copy_nothing hgd d s 22 22 ho 56 Tryd.underlying22 (by kernel_rfl) dp sp n C n c hd hs (by rw [hn]; rfl) (h w hb)
theorem mk_ok {b : Bool} {er z x : Int} (h : (Mk b er z x).e = 0) : er = 0 ∧ -10000 ≤ x ∧ x ≤ 10000 ∧ Mk b er z x = fin (sgm b z) x := by
  unfold Mk at h ⊢
  by_cases h1 : er = 0
  · rw [if_neg (by simpa using h1)] at h ⊢
    by_cases h2 : -10000 ≤ x ∧ x ≤ 10000
    · rw [if_neg (by simpa using h2)] at h ⊢
      exact ⟨h1, h2.1, h2.2, rfl⟩
    · rw [if_pos h2] at h; cases h
  · rw [if_pos h1] at h; exact absurd h h1
theorem mk_good (b : Bool) (er z x : Int) : Ok (Mk b er z x).d := by
  unfold Mk
  split
  · exact ok_dz
  · split
    · exact ok_dz
    · exact fin_ok _ _
theorem mk_bad {b : Bool} {er z x : Int} (h : (Mk b er z x).e ≠ 0) : (Mk b er z x).d = dz := by
  unfold Mk at h ⊢
  split
  · rfl
  · rename_i h1
    rw [if_neg h1] at h
    split
    · rfl
    · rename_i h2
      rw [if_neg h2] at h
      exact (fin_good _ _).2.2 h
theorem fin_32 (b : Bool) (z x : Int) : fin (sgm b (4294967296 * z)) (x - 32) = fin (sgm b z) x := by
  have h := fin_shift (sgm b z) (x - 32) 32
  rw [show x - 32 + ((32 : Nat) : Int) = x by omega] at h
  rw [← h]
  congr 1
  rw [show (2 : Int) ^ 32 = 4294967296 by decide]
  cases b <;> simp [sgm] <;> omega
theorem mk_two {b : Bool} {er er2 z x : Int} (h : (Mk b er z x).e = 0) (h2 : (Mk b er2 (4294967296 * z) (x - 32)).e = 0) : (Mk b er2 (4294967296 * z) (x - 32)).d = (Mk b er z x).d := by
  rw [(mk_ok h).2.2.2, (mk_ok h2).2.2.2, fin_32]
set_option maxRecDepth 100000 in
set_option maxHeartbeats 16000000 in
theorem form_c (b : Bool) (A : Option Addr) (n c : Nat) (x : Int) (l : List Int) (w : World) (hs : Sl .u32 w (.slice A n c) l) (Ll : Lim l) (hl : l.length ≤ 9223372036854775807) (hT : TabD w) :
    Calls Tryd.prog 9 #[.bool b, .slice A n c, .int .i64 x] w fun e w' => e = .returned (.bool true) ∧ Below w.heap.size w w' := by
  have en := hs.len_.1
  have MK : Hid (∀ (W : World) (u : Value) (A : Option Addr) (n c : Nat) (er z y : Int), Below w.heap.size w W → u = .slice A n c → PV W u er z → Calls Tryd.prog 27 #[.bool b, u, .int .i64 y] W (RetD W (Mk b er z y))) := fun W u A n c er z y hW hu h => by
    subst hu; exact Make_d b A n c er z y W h (hT.below hW)
  have LV : Hid (∀ W : World, Below w.heap.size w W → Calls Tryd.prog 49 #[] W fun e w' => e = .returned (.bool true) ∧ Below W.heap.size W w') := fun W hW => lives_c W (hT.below hW)
  have P0 : Hid (PV w (.slice A n c) (chk l) (lv l)) := ⟨l, hs, Ll, hl, rfl, rfl⟩
  have M1 : Hid (Calls Tryd.prog 27 #[.bool b, .slice A n c, .int .i64 x] w (RetD w (Mk b (chk l) (lv l) x))) := MK.out w _ A n c _ _ x (Below.refl _ _) rfl P0.out
  by_cases h0 : (Mk b (chk l) (lv l) x).e = 0
  · have hk := mk_ok h0
    have hc := chk_ok.1 hk.1
    have n400 : n ≤ 400 := by rw [en]; exact hc.1
    have hz : ((Mk b (chk l) (lv l) x).e != 0) = false := by simp [h0]
    have HS := Lib.hid hs
    have EN := Lib.hid en
    have LL := Lib.hid Ll
    have i1 : IntKind.i64.wrap (x - 32) = x - 32 := IntWalk.i64_in _ (by omega)
    have i2 : IntKind.i64.wrap ((n : Int) + 1) = (n : Int) + 1 := IntWalk.i64_in _ (by omega)
    have hmk := run_make_row' (P := Tryd.prog) 22 56 (.int .u32 0) 4 Tryd.underlying22 (by kernel_rfl) rfl .i64 .i64 (n + 1) (by omega) (by omega)
    rw [show ((n + 1 : Nat) : Int) = (n : Int) + 1 by omega] at hmk
    have K1 := mk_good b (chk l) (lv l) x
    have MT : Hid (∀ er2, (Mk b er2 (4294967296 * lv l) (x - 32)).e = 0 → (Mk b er2 (4294967296 * lv l) (x - 32)).d = (Mk b (chk l) (lv l) x).d) := fun er2 h2 => mk_two h0 h2
    have CH : Hid (∀ (W : World) (u : Value), DV W u (Mk b (chk l) (lv l) x).d → Calls Tryd.prog 28 #[u] W (RetB W (.int .i64 0))) := fun W u hu => by
      have := Check_d u _ W hu
      rwa [K1.1] at this
    have K1 := Lib.hid K1
    generalize Mk b (chk l) (lv l) x = r1 at *
    clear hs Ll hl h0 hk hc en
    have hz0 : (r1.e != 0) = false := hz
    by_cases hn : n = 0
    · have hn1 : ((n : Int) == 0) = true := by simp [hn]
      have PZ : Hid (∀ W : World, PV W (.slice none 0 0) 0 (4294967296 * lv l)) := fun W => by
        have e : l = [] := List.length_eq_zero_iff.1 (by rw [← EN.out]; exact hn)
        rw [e, show 4294967296 * lv [] = 0 from rfl]
        have := (NV.nil W 0 none).pv big3_pos
        rwa [erz0 (by decide)] at this
      by_cases hq : (Mk b 0 (4294967296 * lv l) (x - 32)).e = 0
      · have EQ := Lib.hid (MT.out 0 hq)
        have hq1 : ((Mk b 0 (4294967296 * lv l) (x - 32)).e != 0) = false := by simp [hq]
        have HN0 := Lib.hid hn
        clear MT hq hn
        go_enter Tryd.func9, Tryd.ntmps9
        go_wp2_with (first
          | (go_at_call 27; (with_reducible refine (M1.out).mono ?_); rintro e w2 ⟨b2, A2, n2, c2, x2, rfl, hv, hb⟩; have s := hb.alloc hb.size (.cells #[.bool b2, .slice A2 n2 c2, .int .i64 x2] 48); have X := BD.new hv.dv; have D := Lib.hid s; clear hv hb s)
          | (go_at_call 49; (with_reducible refine (LV.out _ D.out).mono ?_); rintro e w3 ⟨rfl, hb⟩; have X := X.below hb; have D := Lib.hid (D.out.trans (hb.mono D.out.size)); clear hb; obtain ⟨p0, p1, p2⟩ := X.bx)
          | (go_at_call 28; (with_reducible refine (CH.out _ _ X.dv).mono ?_); rintro e w4 ⟨rfl, hb⟩; have X := X.below hb; have D := Lib.hid (D.out.trans (hb.mono D.out.size)); clear hb)
          | (with_reducible refine wp_copy_zero rfl (.tmp 40) (.tmp 41) rfl _ _ n _ _ HN0.out rfl rfl w4.heap.size w4 (al1 _ _) ?_; intro w5 hB5; have X := X.below hB5; have D := Lib.hid (D.out.trans (hB5.mono D.out.size)); clear hB5)
          | (go_at_call 27; (with_reducible refine (MK.out w5 _ none 0 0 0 (4294967296 * lv l) (x - 32) D.out rfl (show PV w5 (.slice none 0 0) 0 (4294967296 * lv l) from PZ.out w5)).mono ?_); rintro e w6 ⟨b3, A3, n3, c3, x3, rfl, hv, hb⟩; have s := hb.alloc hb.size (.cells #[.bool b3, .slice A3 n3 c3, .int .i64 x3] 48); have X := X.below s; have Y := BD.new hv.dv; have D := Lib.hid (D.out.trans (s.mono D.out.size)); clear hv hb s; obtain ⟨p0, p1, p2⟩ := X.bx; obtain ⟨q0, q1, q2⟩ := Y.bx)
          | (go_at_call 30; (with_reducible refine (same_true Y.dv X.dv EQ.out (by rw [EQ.out]; exact K1.out)).mono ?_); rintro e w7 ⟨rfl, hb⟩; have D := Lib.hid (D.out.trans (hb.mono D.out.size))))
        go_ret
        exact ⟨rfl, D.out⟩
      · have hq1 : ((Mk b 0 (4294967296 * lv l) (x - 32)).e != 0) = true := by simp [hq]
        have HN0 := Lib.hid hn
        clear MT hq hn
        go_enter Tryd.func9, Tryd.ntmps9
        go_wp2_with (first
          | (go_at_call 27; (with_reducible refine (M1.out).mono ?_); rintro e w2 ⟨b2, A2, n2, c2, x2, rfl, hv, hb⟩; have s := hb.alloc hb.size (.cells #[.bool b2, .slice A2 n2 c2, .int .i64 x2] 48); have X := BD.new hv.dv; have D := Lib.hid s; clear hv hb s)
          | (go_at_call 49; (with_reducible refine (LV.out _ D.out).mono ?_); rintro e w3 ⟨rfl, hb⟩; have X := X.below hb; have D := Lib.hid (D.out.trans (hb.mono D.out.size)); clear hb; obtain ⟨p0, p1, p2⟩ := X.bx)
          | (go_at_call 28; (with_reducible refine (CH.out _ _ X.dv).mono ?_); rintro e w4 ⟨rfl, hb⟩; have X := X.below hb; have D := Lib.hid (D.out.trans (hb.mono D.out.size)); clear hb)
          | (with_reducible refine wp_copy_zero rfl (.tmp 40) (.tmp 41) rfl _ _ n _ _ HN0.out rfl rfl w4.heap.size w4 (al1 _ _) ?_; intro w5 hB5; have X := X.below hB5; have D := Lib.hid (D.out.trans (hB5.mono D.out.size)); clear hB5)
          | (go_at_call 27; (with_reducible refine (MK.out w5 _ none 0 0 0 (4294967296 * lv l) (x - 32) D.out rfl (show PV w5 (.slice none 0 0) 0 (4294967296 * lv l) from PZ.out w5)).mono ?_); rintro e w6 ⟨b3, A3, n3, c3, x3, rfl, hv, hb⟩; have s := hb.alloc hb.size (.cells #[.bool b3, .slice A3 n3 c3, .int .i64 x3] 48); have X := X.below s; have Y := BD.new hv.dv; have D := Lib.hid (D.out.trans (s.mono D.out.size)); clear hv hb s; obtain ⟨p0, p1, p2⟩ := X.bx; obtain ⟨q0, q1, q2⟩ := Y.bx))
        go_ret
        exact ⟨rfl, D.out⟩
    · have hn1 : ((n : Int) == 0) = false := by simp [hn]
      have PT : Hid (∀ (W : World) {g : Nat}, Hid (Row .u32 56 W g (0 :: l)) → PV W (.slice (some ⟨g, 0, none⟩) (n + 1) (n + 1)) (chk (0 :: l)) (4294967296 * lv l)) := fun W g hR => by
        have hL : (0 :: l).length = n + 1 := by rw [EN.out]; rfl
        have := Row.sl (L := 0 :: l) hR.out (n + 1) (by omega)
        rw [hL] at this
        refine ⟨0 :: l, this, ?_, by omega, rfl, ?_⟩
        · intro d hd
          rcases List.mem_cons.1 hd with rfl | hd
          · omega
          · exact LL.out d hd
        · simp [lv]
      by_cases hq : (Mk b (chk (0 :: l)) (4294967296 * lv l) (x - 32)).e = 0
      · have EQ := Lib.hid (MT.out _ hq)
        have hq1 : ((Mk b (chk (0 :: l)) (4294967296 * lv l) (x - 32)).e != 0) = false := by simp [hq]
        clear MT hq
        go_enter Tryd.func9, Tryd.ntmps9
        go_wp2_with (first
          | (go_at_call 27; (with_reducible refine (M1.out).mono ?_); rintro e w2 ⟨b2, A2, n2, c2, x2, rfl, hv, hb⟩; have s := hb.alloc hb.size (.cells #[.bool b2, .slice A2 n2 c2, .int .i64 x2] 48); have X := BD.new hv.dv; have D := Lib.hid s; clear hv hb s)
          | (go_at_call 49; (with_reducible refine (LV.out _ D.out).mono ?_); rintro e w3 ⟨rfl, hb⟩; have X := X.below hb; have D := Lib.hid (D.out.trans (hb.mono D.out.size)); clear hb; obtain ⟨p0, p1, p2⟩ := X.bx)
          | (go_at_call 28; (with_reducible refine (CH.out _ _ X.dv).mono ?_); rintro e w4 ⟨rfl, hb⟩; have X := X.below hb; have D := Lib.hid (D.out.trans (hb.mono D.out.size)); clear hb)
          | (with_reducible refine wp_copy_one rfl (.tmp 40) (.tmp 41) rfl w4.heap.size n n rfl _ rfl l (HS.out.below (D.out.alloc D.out.size _)) EN.out.symm (by rw [← EN.out]; exact Row.new' _ _ _ _ rfl) w4.heap.size w4 (al1 _ _) (Nat.le_refl _) ?_; intro w5 hR5 hB5; have X := X.below hB5; have D := Lib.hid (D.out.trans (hB5.mono D.out.size)); clear hB5)
          | (go_at_call 27; (with_reducible refine (MK.out w5 _ (some ⟨w4.heap.size, 0, none⟩) (n + 1) (n + 1) (chk (0 :: l)) (4294967296 * lv l) (x - 32) D.out rfl (PT.out w5 hR5)).mono ?_); rintro e w6 ⟨b3, A3, n3, c3, x3, rfl, hv, hb⟩; have s := hb.alloc hb.size (.cells #[.bool b3, .slice A3 n3 c3, .int .i64 x3] 48); have X := X.below s; have Y := BD.new hv.dv; have D := Lib.hid (D.out.trans (s.mono D.out.size)); clear hv hb s; obtain ⟨p0, p1, p2⟩ := X.bx; obtain ⟨q0, q1, q2⟩ := Y.bx)
          | (go_at_call 30; (with_reducible refine (same_true Y.dv X.dv EQ.out (by rw [EQ.out]; exact K1.out)).mono ?_); rintro e w7 ⟨rfl, hb⟩; have D := Lib.hid (D.out.trans (hb.mono D.out.size))))
        go_ret
        exact ⟨rfl, D.out⟩
      · have hq1 : ((Mk b (chk (0 :: l)) (4294967296 * lv l) (x - 32)).e != 0) = true := by simp [hq]
        clear MT hq
        go_enter Tryd.func9, Tryd.ntmps9
        go_wp2_with (first
          | (go_at_call 27; (with_reducible refine (M1.out).mono ?_); rintro e w2 ⟨b2, A2, n2, c2, x2, rfl, hv, hb⟩; have s := hb.alloc hb.size (.cells #[.bool b2, .slice A2 n2 c2, .int .i64 x2] 48); have X := BD.new hv.dv; have D := Lib.hid s; clear hv hb s)
          | (go_at_call 49; (with_reducible refine (LV.out _ D.out).mono ?_); rintro e w3 ⟨rfl, hb⟩; have X := X.below hb; have D := Lib.hid (D.out.trans (hb.mono D.out.size)); clear hb; obtain ⟨p0, p1, p2⟩ := X.bx)
          | (go_at_call 28; (with_reducible refine (CH.out _ _ X.dv).mono ?_); rintro e w4 ⟨rfl, hb⟩; have X := X.below hb; have D := Lib.hid (D.out.trans (hb.mono D.out.size)); clear hb)
          | (with_reducible refine wp_copy_one rfl (.tmp 40) (.tmp 41) rfl w4.heap.size n n rfl _ rfl l (HS.out.below (D.out.alloc D.out.size _)) EN.out.symm (by rw [← EN.out]; exact Row.new' _ _ _ _ rfl) w4.heap.size w4 (al1 _ _) (Nat.le_refl _) ?_; intro w5 hR5 hB5; have X := X.below hB5; have D := Lib.hid (D.out.trans (hB5.mono D.out.size)); clear hB5)
          | (go_at_call 27; (with_reducible refine (MK.out w5 _ (some ⟨w4.heap.size, 0, none⟩) (n + 1) (n + 1) (chk (0 :: l)) (4294967296 * lv l) (x - 32) D.out rfl (PT.out w5 hR5)).mono ?_); rintro e w6 ⟨b3, A3, n3, c3, x3, rfl, hv, hb⟩; have s := hb.alloc hb.size (.cells #[.bool b3, .slice A3 n3 c3, .int .i64 x3] 48); have X := X.below s; have Y := BD.new hv.dv; have D := Lib.hid (D.out.trans (s.mono D.out.size)); clear hv hb s; obtain ⟨p0, p1, p2⟩ := X.bx; obtain ⟨q0, q1, q2⟩ := Y.bx))
        go_ret
        exact ⟨rfl, D.out⟩
  · have hz : ((Mk b (chk l) (lv l) x).e != 0) = true := by simp [h0]
    have hd := mk_bad h0
    generalize Mk b (chk l) (lv l) x = r1 at *
    obtain ⟨e1, d1⟩ := r1
    simp only at hd hz
    subst hd
    clear hs Ll hl h0 en P0 MK
    go_enter Tryd.func9, Tryd.ntmps9
    go_wp2_with (first
      | (go_at_call 27; (with_reducible refine (M1.out).mono ?_); rintro e w2 ⟨b2, A2, n2, c2, x2, rfl, hv, hb⟩; obtain rfl : n2 = 0 := (gv_zero hv).2 rfl; have s := hb.alloc hb.size (.cells #[.bool b2, .slice A2 0 c2, .int .i64 x2] 48); have X := BX.new w2 b2 A2 0 c2 x2; have D := Lib.hid s; clear hv hb s)
      | (go_at_call 49; (with_reducible refine (LV.out _ D.out).mono ?_); rintro e w3 ⟨rfl, hb⟩; have X := X.below hb; have D := Lib.hid (D.out.trans (hb.mono D.out.size)); clear hb; obtain ⟨p0, p1, p2⟩ := X)
      | (go_at_call 49; (with_reducible refine (LV.out _ D.out).mono ?_); rintro e w4 ⟨rfl, hb⟩; have D := Lib.hid (D.out.trans (hb.mono D.out.size)); have q1 := (hb.cell (World.block_lt_of_cell? _ _ p1)).trans p1))
    go_ret
    exact ⟨rfl, D.out⟩
end DC
end Go.Proofs.YtnpeokgjfnobmaaDoor
