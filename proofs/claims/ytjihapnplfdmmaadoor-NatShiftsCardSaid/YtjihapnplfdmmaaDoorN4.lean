/-
  Package nat: Of, Cmp, Add.
-/
import Derived.Test.YtjihapnplfdmmaaDoorNCopy
namespace Go.Proofs.YtjihapnplfdmmaaDoor
open Go.RowKit
set_option linter.unusedVariables false
namespace NC
open L
open Z (Nz Tz cmpv)
theorem Cmp_c (u v : Value) (l m : List Int) (w : World) (hs : Sl .u32 w u l) (ht : Sl .u32 w v m) (hl : l.length ≤ 9223372036854775807) (hm : m.length ≤ 9223372036854775807) (Ll : Lim l) (Lm : Lim m) :
    Calls Tryd.prog 30 #[u, v] w (RetQ w (.tuple #[.int .i64 (if chk2 l m = 0 then cmpv (lv l) (lv m) else 0), .int .i64 (chk2 l m)])) := by
  have C := Lib.hid (checkBoth_c u v l m w hs ht hl hm)
  obtain ⟨r, hr⟩ : ∃ r, r = chk2 l m := ⟨_, rfl⟩
  rw [← hr] at C ⊢
  by_cases h : r = 0
  · have h1 := (chk2_ok.1 (hr.symm.trans h))
    have h2 := chk_ok.1 h1.1
    have h3 := chk_ok.1 h1.2
    have P := Lib.hid (compare_c u v l m w hs ht Ll Lm h2.2 h3.2 (by omega) (by omega))
    rw [if_pos h]
    clear hs ht hl hm Ll Lm hr h1 h2 h3
    subst h
    generalize cmpv (lv l) (lv m) = q at P ⊢
    go_enter Tryd.func30, Tryd.ntmps30
    go_wp2_with (first | (go_at_call 49; (with_reducible refine (C.out).mono ?_); rintro e w' ⟨rfl, rfl⟩) | (go_at_call 52; (with_reducible refine (P.out).mono ?_); rintro e w2 ⟨rfl, k, rfl⟩))
    go_ret2
    exact ⟨rfl, k, rfl⟩
  · have e1 : (r != 0) = true := by simp [h]
    rw [if_neg h]
    clear hs ht hl hm Ll Lm hr h
    go_enter Tryd.func30, Tryd.ntmps30
    go_wp2_with (first | (go_at_call 49; (with_reducible refine (C.out).mono ?_); rintro e w' ⟨rfl, rfl⟩))
    go_ret2
    exact ⟨rfl, 0, rfl⟩
/-- limbs in normal form that tell 'z' -/
def RetV (w : World) (z : Int) (e : Ending) (w' : World) : Prop := ∃ A n c, e = .returned (.slice A n c) ∧ NV w' (.slice A n c) z ∧ Below w.heap.size w w'
/-- a block of the call's own, written; it reads M, which tells z -/
def RetRow (w : World) (g N : Nat) (z : Int) (e : Ending) (w' : World) : Prop := ∃ M k, e = .returned (.int .u32 k) ∧ w.grownBy w' (some g) ∧ Hid (Sl .u32 w' (.slice (some ⟨g, 0, none⟩) N N) M ∧ M.length = N ∧ Lim M ∧ lv M = z)
set_option maxRecDepth 100000 in
theorem addTo_row (g N : Nat) (l m : List Int) (vb : Value) (w : World) (hR : Row .u32 50 w g (l ++ List.replicate (N - l.length) 0)) (hY : SlA .u32 w vb m g) (Ll : Lim l) (Lm : Lim m) (hl : l.length < N) (hm : m.length < N) (hN : N ≤ 1000000000) :
    Calls Tryd.prog 50 #[.slice (some ⟨g, 0, none⟩) N N, vb] w (RetRow w g N (lv l + lv m)) := by
  refine (addTo_c g 0 N N _ _ m vb w hR (Wn.row _) (len_pad l N (by omega)) hY (Lim.pad Ll _) Lm (by omega) hN (Nat.le_refl _)).mono fun e w' h => ?_
  obtain ⟨M, k, rfl, hE, hL, k0, k1, hv⟩ := h
  have hv := hv.out
  rw [lv_pad] at hv
  have hS := hE.sl N (Nat.le_refl _)
  rw [hE.len] at hS
  exact ⟨M, k, rfl, hE.grown, hS, hE.len, hL, no_carry Ll Lm hl hm hL k0 hv.1⟩
set_option maxRecDepth 100000 in
theorem Add_c (u v : Value) (l m : List Int) (w : World) (hs : Sl .u32 w u l) (ht : Sl .u32 w v m) (hl : l.length ≤ 9223372036854775807) (hm : m.length ≤ 9223372036854775807) (Ll : Lim l) (Lm : Lim m) :
    Calls Tryd.prog 24 #[u, v] w (RetL w (chk2 l m) (if chk2 l m = 0 then lv l + lv m else 0)) := by
  have C := Lib.hid (checkBoth_c u v l m w hs ht hl hm)
  obtain ⟨r, hr⟩ : ∃ r, r = chk2 l m := ⟨_, rfl⟩
  rw [← hr] at C ⊢
  by_cases h : r = 0
  · have h1 := (chk2_ok.1 (hr.symm.trans h))
    have h2 := chk_ok.1 h1.1
    have h3 := chk_ok.1 h1.2
    rw [if_pos h]
    obtain ⟨A, c, rfl, hc⟩ := hs.form
    obtain ⟨B, d, rfl, hd⟩ := ht.form
    have HS := Lib.hid hs
    have HT := Lib.hid ht
    have LL := Lib.hid Ll
    have LM := Lib.hid Lm
    obtain ⟨x, ex⟩ : ∃ x, x = l.length := ⟨_, rfl⟩
    obtain ⟨y, ey⟩ : ∃ y, y = m.length := ⟨_, rfl⟩
    have hmkx := run_make_row' (P := Tryd.prog) 22 50 (.int .u32 0) 4 Tryd.underlying22 (by kernel_rfl) rfl .i64 .i64 (x + 1) (by have := h2.1; omega) (by have := h2.1; omega)
    have hmky := run_make_row' (P := Tryd.prog) 22 50 (.int .u32 0) 4 Tryd.underlying22 (by kernel_rfl) rfl .i64 .i64 (y + 1) (by have := h3.1; omega) (by have := h3.1; omega)
    rw [show ((x + 1 : Nat) : Int) = (x : Int) + 1 by omega] at hmkx
    rw [show ((y + 1 : Nat) : Int) = (y : Int) + 1 by omega] at hmky
    rw [← ex] at hc h2 C HS ⊢
    rw [← ey] at hd h3 C HT ⊢
    have EX := Lib.hid ex
    have EY := Lib.hid ey
    have x4 : x ≤ 400 := h2.1
    have y4 : y ≤ 400 := h3.1
    clear hs ht hl hm Ll Lm hr h1 h2 h3 ex ey
    subst h
    go_enter Tryd.func24, Tryd.ntmps24
    go_wp2_with (first | (go_at_call 49; (with_reducible refine (C.out).mono ?_); rintro e w' ⟨rfl, rfl⟩) | (with_reducible refine wp_copy_limbs rfl (.tmp 21) (.tmp 22) rfl w.heap.size _ rfl _ rfl l (HS.out.below ((Below.refl _ _).alloc (Nat.le_refl _) _)) (by have := EX.out; omega) (Row.new' _ _ _ _ rfl) w.heap.size w ((Below.refl _ _).alloc (Nat.le_refl _) _) (Nat.le_refl _) ?_; intro w3 hR3 hB3) | (go_at_call 50; (with_reducible refine (addTo_row w.heap.size _ l m _ w3 hR3.out (SlA.old HT.out hB3 (Nat.le_refl _)) LL.out LM.out (by have := EX.out; omega) (by have := EY.out; omega) (by omega)).mono ?_); rintro e w4 ⟨M, k, rfl, hg4, h4⟩) | (go_at_call 39; (with_reducible refine (trim_c _ _ _ M _ h4.out.1 (by have := h4.out.2.1; omega)).mono ?_); rintro e w5 ⟨m5, rfl, hm5, hz5, hv5, rfl⟩))
    all_goals go_ret2
    all_goals exact ⟨_, _, _, rfl, trimmed (L := M) (by rw [h4.out.2.1]; exact h4.out.1) hm5 h4.out.2.2.1 hz5 hv5 h4.out.2.2.2, hB3.grown hg4 hB3.size fun k hk => by injection hk with hk; omega⟩
  · have e1 : (r != 0) = true := by simp [h]
    rw [if_neg h]
    clear hs ht hl hm Ll Lm hr h
    go_enter Tryd.func24, Tryd.ntmps24
    go_wp2_with (first | (go_at_call 49; (with_reducible refine (C.out).mono ?_); rintro e w' ⟨rfl, rfl⟩))
    go_ret2
    exact RetL.err (Below.refl _ _)
end NC
end Go.Proofs.YtjihapnplfdmmaaDoor
