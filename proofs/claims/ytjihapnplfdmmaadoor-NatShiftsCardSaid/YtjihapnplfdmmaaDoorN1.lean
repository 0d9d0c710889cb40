/-
  Package nat: Check, checkBoth, trim, compare.
-/
import Derived.Test.YtjihapnplfdmmaaDoorProg
import Derived.Test.YtjihapnplfdmmaaDoorNMem
namespace Go.Proofs.YtjihapnplfdmmaaDoor
open Go.RowKit
set_option linter.unusedVariables false
namespace NC
open L
open Z (Nz Tz cmpv)
/-- what Check tells of a list: 2 too long, 3 a nought at its end, 0 right -/
def chk (l : List Int) : Int := if 400 < l.length then 2 else if l.getLast? = some 0 then 3 else 0
theorem Check_c (v : Value) (l : List Int) (w : World) (hs : Sl .u32 w v l) (hl : l.length ≤ 9223372036854775807) :
    Calls Tryd.prog 32 #[v] w (fun e w' => e = .returned (.int .i64 (chk l)) ∧ w = w') := by
  obtain ⟨A, c, rfl, hc, _⟩ := hs.open_
  obtain ⟨m, em⟩ : ∃ m, m = l.length := ⟨_, rfl⟩
  by_cases h4 : 400 < l.length
  · have hr : chk l = 2 := by unfold chk; rw [if_pos h4]
    rw [← em] at h4 hl hc ⊢
    have HR := Lib.hid hr
    clear hr em hs
    go_enter Tryd.func32, Tryd.ntmps32
    go_wp2
    go_ret
    exact ⟨ret_int HR.out.symm, rfl⟩
  · by_cases hne : l = []
    · have hr : chk l = 0 := by subst hne; rfl
      have m0 : m = 0 := by rw [em, hne]; rfl
      rw [← em] at h4 hl hc ⊢
      subst m0
      have HR := Lib.hid hr
      clear hr em hs hne
      go_enter Tryd.func32, Tryd.ntmps32
      go_wp2
      go_ret
      exact ⟨ret_int HR.out.symm, rfl⟩
    · obtain ⟨ad, c', e', _, hb', hcell⟩ := hs.at_ (l.length - 1) (by have := List.length_pos_iff.2 hne; omega)
      injection e' with e1 e2 e3
      subst e1
      subst e3
      clear e2
      have hlast : l.getLast? = some (l.getD (l.length - 1) 0) := by
        rw [List.getLast?_eq_getElem?, List.getD_eq_getElem?_getD, List.getElem?_eq_getElem (by have := List.length_pos_iff.2 hne; omega)]; rfl
      obtain ⟨d, hd⟩ : ∃ d, d = l.getD (l.length - 1) 0 := ⟨_, rfl⟩
      rw [← hd] at hcell hlast
      have h1 : 1 ≤ l.length := List.length_pos_iff.2 hne
      rw [← em] at h4 hl hc hcell h1 ⊢
      by_cases hd0 : d = 0
      · have hr : chk l = 3 := by unfold chk; rw [if_neg (by omega), if_pos (by rw [hlast, hd0])]
        have e1 : (d == 0) = true := by simp [hd0]
        have HR := Lib.hid hr
        clear hr em hs hne hd hd0 hlast hb'
        go_enter Tryd.func32, Tryd.ntmps32
        go_wp2
        go_ret
        exact ⟨ret_int HR.out.symm, rfl⟩
      · have hr : chk l = 0 := by unfold chk; rw [if_neg (by omega), if_neg (by rw [hlast]; simpa using hd0)]
        have e1 : (d == 0) = false := by simp [hd0]
        have HR := Lib.hid hr
        clear hr em hs hne hd hd0 hlast hb'
        go_enter Tryd.func32, Tryd.ntmps32
        go_wp2
        go_ret
        exact ⟨ret_int HR.out.symm, rfl⟩
/-- what checkBoth tells -/
def chk2 (l m : List Int) : Int := if chk l ≠ 0 then chk l else chk m
theorem checkBoth_c (u v : Value) (l m : List Int) (w : World) (hs : Sl .u32 w u l) (ht : Sl .u32 w v m) (hl : l.length ≤ 9223372036854775807) (hm : m.length ≤ 9223372036854775807) :
    Calls Tryd.prog 49 #[u, v] w (fun e w' => e = .returned (.int .i64 (chk2 l m)) ∧ w = w') := by
  have C1 := Lib.hid (Check_c u l w hs hl)
  have C2 := Lib.hid (Check_c v m w ht hm)
  obtain ⟨r, hr⟩ : ∃ r, r = chk l := ⟨_, rfl⟩
  obtain ⟨r2, hr2⟩ : ∃ r, r = chk2 l m := ⟨_, rfl⟩
  obtain ⟨r3, hr3⟩ : ∃ r, r = chk m := ⟨_, rfl⟩
  rw [← hr] at C1
  rw [← hr3] at C2
  rw [← hr2]
  unfold chk2 at hr2
  rw [← hr, ← hr3] at hr2
  clear hs ht hl hm hr hr3
  by_cases h : r = 0
  · have e1 : (r != 0) = false := by simp [h]
    rw [if_neg (by simpa using h)] at hr2
    have H2 := Lib.hid hr2
    clear hr2 h
    go_enter Tryd.func49, Tryd.ntmps49
    go_wp2_with (first | (go_at_call 32; (with_reducible refine (C1.out).mono ?_); rintro e w' ⟨rfl, rfl⟩) | (go_at_call 32; (with_reducible refine (C2.out).mono ?_); rintro e w' ⟨rfl, rfl⟩))
    go_ret
    exact ⟨ret_int H2.out.symm, rfl⟩
  · have e1 : (r != 0) = true := by simp [h]
    rw [if_pos h] at hr2
    have H2 := Lib.hid hr2
    clear hr2 h
    go_enter Tryd.func49, Tryd.ntmps49
    go_wp2_with (first | (go_at_call 32; (with_reducible refine (C1.out).mono ?_); rintro e w' ⟨rfl, rfl⟩))
    go_ret
    exact ⟨ret_int H2.out.symm, rfl⟩
/-- trim: the same slice, maybe shorter, in normal form -/
def RetTr (w : World) (A : Option Addr) (c : Nat) (L : List Int) (e : Ending) (w' : World) : Prop :=
  ∃ m, e = .returned (.slice A m c) ∧ m ≤ L.length ∧ Nz (L.take m) ∧ lv (L.take m) = lv L ∧ w = w'
theorem trim_c (A : Option Addr) (n c : Nat) (L : List Int) (w : World) (hs : Sl .u32 w (.slice A n c) L) (hn : L.length ≤ 1000000000) :
    Calls Tryd.prog 39 #[.slice A n c] w (RetTr w A c L) := by
  obtain ⟨en, hc⟩ := hs.len_
  rw [← en] at hn hc
  have EN := Lib.hid en
  have HS := Lib.hid hs
  clear en hs
  go_enter Tryd.func39, Tryd.ntmps39
  go_wp2
  go_loop [0] (fun v => ∃ k : Nat, k ≤ n ∧ v = .slice A k c ∧ Hid (Tz L k)) (fun v => match v with | .slice _ k _ => k | _ => 0)
  case atStart => exact ⟨n, Nat.le_refl _, rfl, by rw [EN.out]; exact Z.Tz_all L⟩
  case round =>
    obtain ⟨k, hk, rfl, htz⟩ := hrel
    by_cases hk0 : 0 < k
    · obtain ⟨ad, c', e, hc', hb, hcell⟩ := HS.out.at_ (k - 1) (by rw [← EN.out]; omega)
      injection e with e1 e2 e3
      subst e1
      clear e2 e3 hc' c' hb
      obtain ⟨z, hz⟩ : ∃ z, L.getD (k - 1) 0 = z := ⟨_, rfl⟩
      rw [hz] at hcell
      have HZ := Lib.hid hz
      clear hz
      by_cases h0 : z = 0
      · have h1 : (z == 0) = true := by simp [h0]
        have HT2 := Lib.hid (Z.Tz_pred L k hk0 (by rw [← EN.out]; exact hk) (by rw [HZ.out]; exact h0) htz.out)
        clear h0
        go_wp2
        go_round
        case rel => exact ⟨k - 1, by omega, by simp, HT2.out⟩
        case measure => simp; omega
      · have h1 : (z == 0) = false := by simp [h0]
        have HNZ := Lib.hid h0
        clear h0
        go_wp2
        go_ret
        refine ⟨k, rfl, by rw [← EN.out]; exact hk, lim_end (by rw [← EN.out]; exact hk) (.inr (by rw [HZ.out]; exact HNZ.out)), lv_tz htz.out, rfl⟩
    · obtain rfl : k = 0 := by omega
      go_wp2
      go_ret
      exact ⟨0, rfl, by omega, lim_end (by omega) (.inl rfl), lv_tz htz.out, rfl⟩
end NC
end Go.Proofs.YtjihapnplfdmmaaDoor
