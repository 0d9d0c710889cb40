/-
  Texts glued together for a claim: Z1 Z2 Z3 Z4 Z5 Z6 Z7 Z8 Z9 Z10 ZDivP.
-/
import Derived.Test.YtelblhgagpkjmaaGreatDoorF1
import Derived.Test.YtelblhgagpkjmaaGreatDoorProg
import Derived.WalkLawsBesides
import Derived.LoopTactic
import Derived.Lib.Hide
import Derived.Outline
import Derived.RegionTactic
import Derived.BigRegion
import Derived.Deep.QuietTactic
import Derived.BigQuiet
import Derived.Deep.DeepCutAuto
import Derived.Deep.RegionWith
import Derived.Deep.RegionHeld3
import Derived.IntWalk
/-
  The reference's whole numbers: trim.
-/
namespace Go.Proofs.YtelblhgagpkjmaaGreatDoor
set_option linter.unusedVariables false
set_option linter.unusedSimpArgs false
open Go.RowKit
set_option linter.unusedVariables false
namespace ZC
open Z
/-- a sign and a slice that hold the whole number 'z': its digits by ten thousand, with no nought at the end -/
def ZL (w : World) (b : Bool) (A : Option Addr) (n c : Nat) (z : Int) : Prop :=
  b = decide (z < 0) ∧ ∃ L, n = L.length ∧ Sl .i64 w (.slice A n c) L ∧ Dig L ∧ Nz L ∧ val L = z.natAbs
/-- the value 'v' holds the whole number 'z' -/
def ZV (w : World) (v : Value) (z : Int) : Prop := ∃ b A n c, v = .agg #[.bool b, .slice A n c] ∧ ZL w b A n c z
theorem ZL.keep {w w' : World} {b A n c z} (h : ZL w b A n c z) (hk : ∀ L, Sl .i64 w (.slice A n c) L → Sl .i64 w' (.slice A n c) L) : ZL w' b A n c z := by
  obtain ⟨e, L, hn, hs, h⟩ := h
  exact ⟨e, L, hn, hk L hs, h⟩
theorem ZL.below {w w' : World} {b A n c z} (h : ZL w b A n c z) (hb : Below w.heap.size w w') : ZL w' b A n c z := h.keep fun _ hs => hs.below hb
theorem ZL.alloc {w : World} {b A n c z} (h : ZL w b A n c z) (o : Obj) : ZL (w.alloc o) b A n c z := h.keep fun _ hs => hs.alloc o
theorem ZL.drew {w : World} {b A n c z} (h : ZL w b A n c z) : ZL w.drew b A n c z := h
theorem ZL.drewN {w : World} {b A n c z} (h : ZL w b A n c z) (k : Nat) : ZL (w.drewN k) b A n c z := h
theorem ZL.setCell {w : World} {b A n c z} (h : ZL w b A n c z) {p : Addr} {u : Value} (hu : w.cell? p = some u) (hk : ∀ z, u ≠ .int .i64 z) (x : Value) : ZL (w.setCell p x) b A n c z :=
  h.keep fun _ hs => hs.setCell hu hk x
theorem ZL.v {w : World} {b A n c z} (h : ZL w b A n c z) : ZV w (.agg #[.bool b, .slice A n c]) z := ⟨b, A, n, c, rfl, h⟩
theorem ZL.nil (w : World) (A : Option Addr) (c : Nat) : ZL w false A 0 c 0 := ⟨rfl, [], rfl, Sl.nil _ _ _ _, (by intro d h; cases h), fun h => absurd rfl h, rfl⟩
theorem ZL.len {w : World} {b A n c z} {N : Nat} (h : ZL w b A n c z) (hz : z.natAbs < big N) : n ≤ N := by
  obtain ⟨e, L, hn, hs, hd, hnz, hv⟩ := h
  rw [hn]; exact len_of hd hnz hv hz
theorem ZL.of {w : World} {b : Bool} {A n c} {z : Int} {L : List Int} (hb : b = decide (z < 0)) (hn : n = L.length) (hs : Sl .i64 w (.slice A n c) L) (hd : Dig L) (hz : Nz L) (hv : val L = z.natAbs) : ZL w b A n c z := ⟨hb, L, hn, hs, hd, hz, hv⟩
/-- an empty slice, or one in a block from number B on -/
def Fr (B : Nat) (A : Option Addr) (n : Nat) : Prop := n = 0 ∨ ∃ ad, A = some ad ∧ B ≤ ad.block
theorem Fr.mono {B B' : Nat} {A : Option Addr} {n : Nat} (h : Fr B' A n) (hB : B ≤ B') : Fr B A n := h.imp id fun ⟨ad, e, h⟩ => ⟨ad, e, Nat.le_trans hB h⟩
theorem Fr.shrink {B : Nat} {A : Option Addr} {n m : Nat} (h : Fr B A n) (hm : m ≤ n) : Fr B A m := h.imp (fun h => by omega) id
/-- a whole number whose digits lie in a block from number B on -/
def ZLF (w : World) (B : Nat) (b : Bool) (A : Option Addr) (n c : Nat) (z : Int) : Prop := ZL w b A n c z ∧ Fr B A n
theorem ZLF.zl {w : World} {B b A n c z} (h : ZLF w B b A n c z) : ZL w b A n c z := h.1
theorem ZLF.fr {w : World} {B b A n c z} (h : ZLF w B b A n c z) : Fr B A n := h.2
theorem ZLF.v {w : World} {B b A n c z} (h : ZLF w B b A n c z) : ZV w (.agg #[.bool b, .slice A n c]) z := h.1.v
theorem ZLF.below {w w' : World} {B b A n c z} (h : ZLF w B b A n c z) (hb : Below w.heap.size w w') : ZL w' b A n c z := h.1.below hb
/-- a whole number in new memory -/
def RetZ (w : World) (z : Int) (e : Ending) (w' : World) : Prop := ∃ v, e = .returned v ∧ (∃ b A n c, v = .agg #[.bool b, .slice A n c] ∧ ZLF w' w.heap.size b A n c z) ∧ Below w.heap.size w w'
/-- a whole number, wherever -/
def RetZ0 (w : World) (z : Int) (e : Ending) (w' : World) : Prop := ∃ v, e = .returned v ∧ ZV w' v z ∧ Below w.heap.size w w'
/-- a whole number in the same slice as was handed in, maybe shorter -/
def RetT (w : World) (A : Option Addr) (n c : Nat) (z : Int) (e : Ending) (w' : World) : Prop := ∃ b m, e = .returned (.agg #[.bool b, .slice A m c]) ∧ m ≤ n ∧ ZL w' b A m c z ∧ Below w.heap.size w w'
theorem trim_end {w W : World} {neg nb : Bool} {A : Option Addr} {n c k : Nat} {L : List Int} (hs : Sl .i64 w (.slice A n c) L) (hb : Below w.heap.size w W) (hd : Dig L) (hn : n = L.length) (hk : k ≤ n)
    (ht : Tz L k) (hz : k = 0 ∨ L.getD (k - 1) 0 ≠ 0) (hnb : nb = (neg && decide (0 < k))) : RetT w A n c (sg neg (val L)) (.returned (.agg #[.bool nb, .slice A k c])) W := by
  subst hn
  have hnz := Nz_take hk hz
  have hv := val_take ht
  have hd' := hd.take k
  refine ⟨nb, k, rfl, hk, ⟨?_, L.take k, by rw [List.length_take, Nat.min_eq_left hk], (hs.below hb).take k hk, hd', hnz, by rw [hv, sg_abs neg _ (val_nonneg hd)]⟩, hb⟩
  rcases Nat.eq_zero_or_pos k with rfl | hk0
  · rw [← hv]; simp [hnb, val, sg]
  · have hne : L.take k ≠ [] := by
      intro h; have := congrArg List.length h; simp at this; rcases this with h | h
      · omega
      · subst h; simp at hk; omega
    have hp := val_pos hd' hnz hne
    rw [hv] at hp
    rw [sg_lt neg _ hp, hnb]; simp [hk0]
theorem trim_c (neg : Bool) (A : Option Addr) (n c : Nat) (L : List Int) (w : World) (hs : Sl .i64 w (.slice A n c) L) (hd : Dig L) (hn : L.length ≤ 1000000000) :
    Calls Tryz.prog 76 #[.agg #[.bool neg, .slice A n c]] w (RetT w A n c (sg neg (val L))) := by
  obtain ⟨A', c', e, hc, hcell⟩ := hs.open_
  injection e with e1 e2 e3
  subst e1
  subst e3
  rw [← e2] at hn hc
  have HN := Lib.hid e2
  clear e2
  go_enter Tryz.func76, Tryz.ntmps76
  go_wp2
  have hs2 := (hs.alloc (.cells #[.bool neg, .slice A n c] 39)).alloc (.cells #[.bool false, .slice none 0 0] 39)
  have HS := Lib.hid hs2
  have HS0 := Lib.hid hs
  have HD := Lib.hid hd
  clear hs hs2 hcell hd
  go_loop [3] (fun i => ∃ k : Nat, k ≤ n ∧ i = .int .i64 k ∧ Tz L k) (fun i => (intOf i).toNat)
  case atStart => exact ⟨n, Nat.le_refl _, rfl, by rw [HN.out]; exact Tz_all L⟩
  case round =>
    obtain ⟨k, hk, rfl, htz⟩ := hrel
    have HT := Lib.hid htz
    clear htz
    by_cases hk0 : 0 < k
    · obtain ⟨ad, c', e, hc', hb, hcell⟩ := HS.out.at_ (k - 1) (by rw [← HN.out]; omega)
      injection e with e1 e2 e3
      subst e1
      clear e2 e3 hc' c' hb
      obtain ⟨z, hz⟩ : ∃ z, L.getD (k - 1) 0 = z := ⟨_, rfl⟩
      rw [hz] at hcell
      have HZ := Lib.hid hz
      clear hz
      by_cases h0 : z = 0
      · have h1 : (z == 0) = true := by simp [h0]
        clear h0
        go_wp2
        go_round
        case rel => exact ⟨k - 1, by omega, by go_num, Tz_pred L k hk0 (by rw [← HN.out]; exact hk) (by rw [HZ.out]; simpa using h1) HT.out⟩
        case measure => simp [intOf]; omega
      · have h1 : (z == 0) = false := by simp [h0]
        clear h0
        have h3 : decide (0 < (k : Int)) = true := by simpa using hk0
        cases neg
        · go_wp2
          go_region
          go_wp2
          exact bodyPost_ret (v := .agg #[.bool false, .slice (some ad) k c]) (by simp [results, Tryz.results76, go_sem]) rfl
            (trim_end HS0.out (((Below.refl _ _).alloc (Nat.le_refl _) _).alloc (by simp) _).drew HD.out HN.out hk HT.out (.inr (by rw [HZ.out]; simpa using h1)) (by simp [hk0]))
        · go_wp2
          go_region
          go_wp2
          exact bodyPost_ret (v := .agg #[.bool true, .slice (some ad) k c]) (by simp [results, Tryz.results76, go_sem]) rfl
            (trim_end HS0.out (((Below.refl _ _).alloc (Nat.le_refl _) _).alloc (by simp) _).drew HD.out HN.out hk HT.out (.inr (by rw [HZ.out]; simpa using h1)) (by simp [hk0]))
    · obtain rfl : k = 0 := by omega
      cases neg
      · go_wp2
        go_region
        go_wp2
        exact bodyPost_ret (v := .agg #[.bool false, .slice A 0 c]) (by simp [results, Tryz.results76, go_sem]) rfl
          (trim_end HS0.out (((Below.refl _ _).alloc (Nat.le_refl _) _).alloc (by simp) _).drew HD.out HN.out hk HT.out (.inl rfl) (by simp [hk0]))
      · go_wp2
        go_region
        go_wp2
        exact bodyPost_ret (v := .agg #[.bool false, .slice A 0 c]) (by simp [results, Tryz.results76, go_sem]) rfl
          (trim_end HS0.out (((Below.refl _ _).alloc (Nat.le_refl _) _).alloc (by simp) _).drew HD.out HN.out hk HT.out (.inl rfl) (by simp [hk0]))
theorem drew2 (w : World) (a b : Nat) : ∃ n, (w.drewN a).drewN b = w.drewN n := ⟨a + b, by rw [World.drewN_drewN]⟩
theorem drew3 (w : World) (a b c : Nat) : ∃ n, ((w.drewN a).drewN b).drewN c = w.drewN n := ⟨a + b + c, by rw [World.drewN_drewN, World.drewN_drewN, Nat.add_assoc]⟩
def RetQ (w : World) (v : Value) (e : Ending) (w' : World) : Prop := e = .returned v ∧ ∃ n, w' = w.drewN n
theorem size_c (s t : Value) (L M : List Int) (w : World) (hs : Sl .i64 w s L) (ht : Sl .i64 w t M) (hL : Dig L) (hM : Dig M) (nL : Nz L) (nM : Nz M) (bL : L.length ≤ 1000000000) (bM : M.length ≤ 1000000000) :
    Calls Tryz.prog 60 #[s, t] w (RetQ w (.int .i64 (cmpv (val L) (val M)))) := by
  obtain ⟨n, hn⟩ : ∃ n, n = L.length := ⟨_, rfl⟩
  obtain ⟨m, hm⟩ : ∃ m, m = M.length := ⟨_, rfl⟩
  obtain ⟨A, c, rfl, hc, hcL⟩ := hs.open_
  obtain ⟨B, d, rfl, hd, hcM⟩ := ht.open_
  rw [← hn] at bL hc hcL ⊢
  rw [← hm] at bM hd hcM ⊢
  obtain ⟨r, hr⟩ : ∃ r, r = cmpv (val L) (val M) := ⟨_, rfl⟩
  rw [← hr]
  have HR := Lib.hid hr
  have HN := Lib.hid hn
  have HM := Lib.hid hm
  have CL := Lib.hid hcL
  have CM := Lib.hid hcM
  have DL := Lib.hid hL
  have DM := Lib.hid hM
  have NL := Lib.hid nL
  have NM := Lib.hid nM
  clear hr hn hm hcL hcM hL hM nL nM hs ht
  by_cases h1 : n < m
  · have e1 : ((n : Int) != (m : Int)) = true := by rw [bne_iff_ne]; omega
    go_enter Tryz.func60, Tryz.ntmps60
    go_wp2
    go_ret
    exact ⟨ret_int (by rw [HR.out, cmpv_lt (val_len DL.out DM.out NM.out (by rw [← HN.out, ← HM.out]; exact h1))]), 0, rfl⟩
  · by_cases h2 : m < n
    · have e1 : ((n : Int) != (m : Int)) = true := by rw [bne_iff_ne]; omega
      go_enter Tryz.func60, Tryz.ntmps60
      go_wp2
      go_ret
      exact ⟨ret_int (by rw [HR.out, cmpv_gt (val_len DM.out DL.out NL.out (by rw [← HN.out, ← HM.out]; exact h2))]), 0, rfl⟩
    · obtain rfl : n = m := by omega
      have e1 : ((n : Int) != (n : Int)) = false := by simp
      clear h1 h2
      go_enter Tryz.func60, Tryz.ntmps60
      go_wp2
      go_loopw [5] (fun i wr => ∃ k : Nat, k ≤ n ∧ i = .int .i64 ((k : Int) - 1) ∧ Hid (L.drop k = M.drop k) ∧ ∃ q, wr = w.drewN q) (fun i _ => (intOf i + 1).toNat)
      case atStart => exact ⟨n, Nat.le_refl _, rfl, by have a := HN.out; have b := HM.out; show L.drop n = M.drop n; rw [List.drop_of_length_le (by omega), List.drop_of_length_le (by omega)], 0, rfl⟩
      case round =>
        obtain ⟨k, hk, rfl, hdr, q, rfl⟩ := hrel
        by_cases hk0 : 0 < k
        · obtain ⟨ad, rfl, hb, hca⟩ := CL.out (k - 1) (by omega)
          obtain ⟨ad', rfl, hb', hcb⟩ := CM.out (k - 1) (by omega)
          obtain ⟨x, hx⟩ : ∃ x, L.getD (k - 1) 0 = x := ⟨_, rfl⟩
          obtain ⟨y, hy⟩ : ∃ y, M.getD (k - 1) 0 = y := ⟨_, rfl⟩
          rw [hx] at hca
          rw [hy] at hcb
          have HX := Lib.hid hx
          have HY := Lib.hid hy
          clear hx hy hb hb'
          have kL : k - 1 < L.length := by have := HN.out; omega
          have kM : k - 1 < M.length := by have := HM.out; omega
          have hdr' : Hid (L.drop (k - 1 + 1) = M.drop (k - 1 + 1)) := by rw [show k - 1 + 1 = k by omega]; exact hdr
          by_cases h1 : x < y
          · go_wp2
            go_quiet (fail)
            go_wp2
            go_ret
            exact ⟨ret_int (by rw [HR.out, cmpv_lt (val_at_lt DL.out DM.out kL kM hdr' (by rw [HX.out, HY.out]; exact h1))]), drew2 _ _ _⟩
          · by_cases h2 : y < x
            · go_wp2
              go_quiet (fail)
              go_wp2
              go_quiet (fail)
              go_wp2
              go_ret
              exact ⟨ret_int (by rw [HR.out, cmpv_gt (val_at_lt DM.out DL.out kM kL hdr'.symm (by rw [HX.out, HY.out]; exact h2))]), drew3 _ _ _ _⟩
            · go_wp2
              go_quiet (fail)
              go_wp2
              go_quiet (fail)
              go_wp2
              go_roundw
              case rel => exact ⟨k - 1, by omega, by go_num, drop_same kL kM hdr' (by rw [HX.out, HY.out]; omega), _, rfl⟩
              case measure => simp [intOf]; omega
        · obtain rfl : k = 0 := by omega
          go_wp2
          go_ret
          exact ⟨ret_int (by rw [HR.out, cmpv_eq (by simpa using congrArg val hdr)]), _, rfl⟩
theorem below_drewN {B : Nat} {a w : World} (h : Below B a w) (n : Nat) : Below B a (w.drewN n) := ⟨h.os, h.tape, h.output, h.size, h.block⟩
theorem ZCmp_c (va vb : Value) (a b : Int) (w : World) (ha : ZV w va a) (hb : ZV w vb b) (bA : a.natAbs < big 1000000) (bB : b.natAbs < big 1000000) :
    Calls Tryz.prog 34 #[va, vb] w fun e w' => e = .returned (.int .i64 (cmpv a b)) ∧ Below w.heap.size w w' := by
  obtain ⟨na, A, n, c, rfl, ha⟩ := ha
  obtain ⟨nb, B, m, d, rfl, hb⟩ := hb
  have ha' := (ha.alloc (.cells #[.bool na, .slice A n c] 39)).alloc (.cells #[.bool nb, .slice B m d] 39)
  have hb' := (hb.alloc (.cells #[.bool na, .slice A n c] 39)).alloc (.cells #[.bool nb, .slice B m d] 39)
  have lL := ha.len bA
  have lM := hb.len bB
  obtain ⟨hna, L, hn, hs, dL, nL, vL⟩ := ha'
  obtain ⟨hnb, M, hm, ht, dM, nM, vM⟩ := hb'
  have SZ := Lib.hid (size_c (.slice A n c) (.slice B m d) L M _ hs ht dL dM nL nM (by omega) (by omega))
  have cb := cmpv_bd (val L) (val M)
  have fin : ∀ r, r = (if na then (if nb then - cmpv (val L) (val M) else -1) else (if nb then 1 else cmpv (val L) (val M))) → r = cmpv a b := by
    intro r hr
    rw [hr, hna, hnb, vL, vM]
    unfold cmpv
    by_cases h1 : a < 0 <;> by_cases h2 : b < 0 <;> simp [h1, h2] <;> (repeat (first | omega | split))
  have FIN := Lib.hid fin
  clear hna hnb fin vL vM dL dM nL nM lL lM bA bB hs ht hn hm ha hb
  cases na <;> cases nb
  all_goals
    go_enter Tryz.func34, Tryz.ntmps34
    go_wp2_with (first | (go_at_call 60; (with_reducible refine (SZ.out).mono ?_); rintro e w' ⟨rfl, n, rfl⟩))
    go_ret
    exact ⟨ret_int (FIN.out _ (by simp)), by repeat (first | exact Below.refl _ _ | apply below_drewN | apply Below.drew | refine Below.alloc ?_ (by simp) _)⟩
end ZC
end Go.Proofs.YtelblhgagpkjmaaGreatDoor

/-
  The reference's whole numbers: the other sign, without a sign, the sign, a number.
-/
namespace Go.Proofs.YtelblhgagpkjmaaGreatDoor
set_option linter.unusedVariables false
set_option linter.unusedSimpArgs false
open Go.RowKit
set_option linter.unusedVariables false
theorem bcell {W w1 : World} (hb : Below W.heap.size W w1) : (∀ b o, b < W.heap.size → w1.cell? ⟨b, o, none⟩ = W.cell? ⟨b, o, none⟩) ∧ (∀ b o, b < W.heap.size → w1.frozen? ⟨b, o, none⟩ = W.frozen? ⟨b, o, none⟩) :=
  ⟨fun b o h => hb.cell (p := ⟨b, o, none⟩) h, fun b o h => hb.frozen (p := ⟨b, o, none⟩) h⟩
namespace ZC
open Z
theorem RetZ0.cell {w w1 : World} {z : Int} {B : Nat} {A A0 : Option Addr} {n n0 c c0 : Nat} {b b0 : Bool}
    (hv : ZL w1 b A n c z) (hB : w.heap.size ≤ B)
    (h0 : w1.cell? ⟨B, 0, none⟩ = some (.bool b0)) (h1 : w1.cell? ⟨B, 1, none⟩ = some (.slice A0 n0 c0)) (hb : Below w.heap.size w w1) :
    RetZ0 w z (.returned (.agg #[.bool b, .slice A n c])) ((w1.setCell ⟨B, 0, none⟩ (.bool b)).setCell ⟨B, 1, none⟩ (.slice A n c)) :=
  ⟨_, rfl, ((hv.setCell h0 (fun z h => by cases h) _).setCell (p := ⟨B, 1, none⟩) (u := .slice A0 n0 c0) (by rw [World.cell?_setCell_other _ _ _ _ (by simp)]; exact h1) (fun z h => by cases h) _).v, (hb.setCell hB _).setCell hB _⟩
theorem RetZ.cell {w w1 : World} {z : Int} {B B0 : Nat} {A A0 : Option Addr} {n n0 c c0 : Nat} {b b0 : Bool}
    (hv : ZLF w1 B0 b A n c z) (hB0 : w.heap.size ≤ B0) (hB : w.heap.size ≤ B)
    (h0 : w1.cell? ⟨B, 0, none⟩ = some (.bool b0)) (h1 : w1.cell? ⟨B, 1, none⟩ = some (.slice A0 n0 c0)) (hb : Below w.heap.size w w1) :
    RetZ w z (.returned (.agg #[.bool b, .slice A n c])) ((w1.setCell ⟨B, 0, none⟩ (.bool b)).setCell ⟨B, 1, none⟩ (.slice A n c)) :=
  ⟨_, rfl, ⟨b, A, n, c, rfl, ((hv.1.setCell h0 (fun z h => by cases h) _).setCell (p := ⟨B, 1, none⟩) (u := .slice A0 n0 c0) (by rw [World.cell?_setCell_other _ _ _ _ (by simp)]; exact h1) (fun z h => by cases h) _), hv.2.mono hB0⟩, (hb.setCell hB _).setCell hB _⟩
theorem ZNeg_c (va : Value) (a : Int) (w : World) (ha : ZV w va a) (bA : a.natAbs < big 1000000) :
    Calls Tryz.prog 55 #[va] w (RetZ0 w (-a)) := by
  obtain ⟨b, A, n, c, rfl, ha⟩ := ha
  have lL := ha.len bA
  have ha' := (ha.alloc (.cells #[.bool b, .slice A n c] 39)).alloc (.cells #[.bool false, .slice none 0 0] 39)
  obtain ⟨hb, L, hn, hs, dL, nL, vL⟩ := ha'
  have tr := trim_c (!b) A n c L _ hs dL (by omega)
  rw [show sg (!b) (val L) = -a by rw [vL, hb]; by_cases h : a < 0 <;> simp [sg, h] <;> omega] at tr
  have TR := Lib.hid tr
  clear hs dL nL lL bA hn vL tr hb ha
  go_enter Tryz.func55, Tryz.ntmps55
  go_wp2_with (first | (go_at_call 76; (with_reducible refine (TR.out).mono ?_); rintro e w1 ⟨b1, n1, rfl, hm1, hv1, hb1⟩ ; obtain ⟨hc1, hf1⟩ := bcell hb1 ; have hz1 := hb1.size))
  have bw : Below w.heap.size w w1 := (((Below.refl _ _).alloc (Nat.le_refl _) _).alloc (by simp) _).trans (hb1.mono (by simp; omega))
  have c0 : w1.cell? ⟨w.heap.size + 1, 0, none⟩ = some (.bool false) := by rw [hb1.cell (by simp)]; simp [go_sem]
  have c1' : w1.cell? ⟨w.heap.size + 1, 1, none⟩ = some (.slice none 0 0) := by rw [hb1.cell (by simp)]; simp [go_sem]
  exact bodyPost_ret (v := .agg #[.bool b1, .slice A n1 c]) (by simp [results, Tryz.results55, go_sem, c0, c1']) rfl (RetZ0.cell hv1 (by omega) c0 c1' bw)
theorem ZAbs_c (va : Value) (a : Int) (w : World) (ha : ZV w va a) :
    Calls Tryz.prog 35 #[va] w (RetZ0 w (a.natAbs : Int)) := by
  obtain ⟨b, A, n, c, rfl, ha⟩ := ha
  have hb : ZL w false A n c (a.natAbs : Int) := ⟨by simp, by obtain ⟨_, L, h⟩ := ha; exact ⟨L, by simpa using h⟩⟩
  have HS := ((hb.alloc (.cells #[.bool b, .slice A n c] 39)).alloc (.cells #[.bool false, .slice A n c] 39))
  go_enter Tryz.func35, Tryz.ntmps35
  go_wp2
  exact bodyPost_ret (v := .agg #[.bool false, .slice A n c]) (by simp [results, Tryz.results35, go_sem]) rfl
    ⟨_, rfl, HS.v, (((Below.refl _ _).alloc (Nat.le_refl _) _).alloc (by simp) _)⟩
end ZC
end Go.Proofs.YtelblhgagpkjmaaGreatDoor

/-
  The reference's whole numbers: a number's digits (N).
-/
namespace Go.Proofs.YtelblhgagpkjmaaGreatDoor
set_option linter.unusedVariables false
set_option linter.unusedSimpArgs false
open Go.RowKit
set_option linter.unusedVariables false
theorem el_int : Elem 37 3 .i64 := Elem.of Tryz.underlying37 (b := 8) (by kernel_rfl) (by decide)
namespace ZC
open Z
theorem N_c (n : Int) (h0 : -9223372036854775808 ≤ n) (h1 : n ≤ 9223372036854775807) (w : World) :
    Calls Tryz.prog 28 #[.int .i64 n] w (RetZ w n) := by
  have H0 := Lib.hid (NI.start n h0 h1)
  go_enter Tryz.func28, Tryz.ntmps28
  go_wp2
  go_loopw [0] (fun i wr => ∃ m L A k c, i = .int .i64 m ∧ Hid (NI n m L) ∧ Hid (k = L.length) ∧ Own .i64 3 wr (w.heap.size + 2) (.slice A k c) L ∧ Blk wr w.heap.size 39 #[.bool false, .slice none 0 0] ∧ Blk wr (w.heap.size + 1) 39 #[.bool (decide (n < 0)), .slice A k c] ∧ Below w.heap.size w wr) (fun i _ => (intOf i).natAbs)
  case atStart =>
    refine ⟨n, [], none, 0, 0, rfl, H0.out, rfl, Own.nil _ _ _ _, (Blk.new _ _ _).alloc _, ?_, ((Below.refl _ _).alloc (Nat.le_refl _) _).alloc (by simp) _⟩
    have := Blk.new (w.alloc (.cells #[.bool false, .slice none 0 0] 39)) 39 #[.bool (decide (n < 0)), .slice none 0 0]
    simpa using this
  case round =>
    obtain ⟨m, L, A, k, c, rfl, hni, HK, hown, hb0, hb1, hbw⟩ := hrel
    have p0 := hb1.at_ 0 rfl
    have p1 := hb1.at_ 1 rfl
    have f1 := hb1.frozen 1
    have hsz := hb1.lt
    by_cases hm : m = 0
    · subst hm
      have hmm : ((0 : Int) != 0) = false := rfl
      have hsl := Lib.hid hown.sl
      have hd := Lib.hid hni.out.done
      have t0 := hb0.at_ 0 rfl
      have t1 := hb0.at_ 1 rfl
      have t2 := hb0.frozen 0
      have t3 := hb0.frozen 1
      go_wp2
      refine bodyPost_ret (v := .agg #[.bool (decide (n < 0)), .slice A k c]) (by simp [results, Tryz.results28, go_sem, t0, t1]) rfl ?_
      exact RetZ.cell (B0 := w.heap.size + 2) ⟨⟨rfl, L, HK.out, hsl.out, hd.out⟩, hown.at_least⟩ (by omega) (Nat.le_refl _) t0 t1 hbw
    · have hm1 : (m != 0) = true := by rw [bne_iff_ne]; exact hm
      have hst := Lib.hid (hni.out.step hm)
      have hmb : -9223372036854775808 ≤ m ∧ m ≤ 9223372036854775807 := hni.out.bd h0 h1
      have tb := tmod_bd m
      by_cases hd : m.tmod 10000 < 0
      · have hdg := Lib.hid (show -(m.tmod 10000) = dgt m by unfold dgt; rw [if_pos hd])
        go_wp2_with (at_builtin; refine app1 el_int rfl _ _ rfl rfl hown _ rfl (by have := hni.out.len; omega) (by omega) ?_; intro A2 k2 c2 w2 hk2 hown2 hg2 hat2; have q0 := hb0.grown hg2 (hown.ne hb0 (by decide)); have q1 := hb1.grown hg2 (hown.ne hb1 (by decide)); have r1 := q1.at_ 1 rfl; have g1 := q1.frozen 1; clear p0 p1 f1)
        rw [hdg.out] at hown2
        have hlt := hown.lt
        have hbw2 : Below w.heap.size w w2 := hbw.grown hg2 (by omega) (fun g hg => by have := hown.lt g hg; omega)
        clear r1 g1
        go_roundw
        case rel =>
          refine ⟨_, _, _, _, _, rfl, hst.out, (hk2.out.trans (by simp)), hown2.low (by simp) _, q0.far (by simp) _, ?_, hbw2.setCell (by simp) _⟩
          simpa using q1.set_ 1 (.slice A2 k2 c2)
        case measure => simp only [intOf]; have := tdiv_abs m; omega
      · have hdg := Lib.hid (show m.tmod 10000 = dgt m by unfold dgt; rw [if_neg hd])
        go_wp2_with (at_builtin; refine app1 el_int rfl _ _ rfl rfl hown _ rfl (by have := hni.out.len; omega) (by omega) ?_; intro A2 k2 c2 w2 hk2 hown2 hg2 hat2; have q0 := hb0.grown hg2 (hown.ne hb0 (by decide)); have q1 := hb1.grown hg2 (hown.ne hb1 (by decide)); have r1 := q1.at_ 1 rfl; have g1 := q1.frozen 1; clear p0 p1 f1)
        rw [hdg.out] at hown2
        have hlt := hown.lt
        have hbw2 : Below w.heap.size w w2 := hbw.grown hg2 (by omega) (fun g hg => by have := hown.lt g hg; omega)
        clear r1 g1
        go_roundw
        case rel =>
          refine ⟨_, _, _, _, _, rfl, hst.out, (hk2.out.trans (by simp)), hown2.low (by simp) _, q0.far (by simp) _, ?_, hbw2.setCell (by simp) _⟩
          simpa using q1.set_ 1 (.slice A2 k2 c2)
        case measure => simp only [intOf]; have := tdiv_abs m; omega
end ZC
end Go.Proofs.YtelblhgagpkjmaaGreatDoor

/-
  The reference's whole numbers: both together (ZAdd), and the difference (ZSub).
-/
namespace Go.Proofs.YtelblhgagpkjmaaGreatDoor
set_option linter.unusedVariables false
set_option linter.unusedSimpArgs false
open Go.RowKit
set_option linter.unusedVariables false
namespace ZC
open Z
/-- what both boxes hold behind the exchange -/
structure AddIn (w : World) (z : Int) (x y : Bool) (A : Option Addr) (n c : Nat) (B : Option Addr) (m d : Nat) (X Y : List Int) : Prop where
  sx : Sl .i64 w (.slice A n c) X
  sy : Sl .i64 w (.slice B m d) Y
  dx : Dig X
  dy : Dig Y
  nx : n = X.length
  ny : m = Y.length
  bx : n ≤ 1000000
  bY : m ≤ 1000000
  sum : sg x (val X) + sg y (val Y) = z
  ge : x ≠ y → val Y ≤ val X
set_option maxRecDepth 100000 in
set_option maxHeartbeats 8000000 in
theorem ZAdd_c (va vb : Value) (a b : Int) (w : World) (ha : ZV w va a) (hb : ZV w vb b) (bA : a.natAbs < big 1000000) (bB : b.natAbs < big 1000000) :
    Calls Tryz.prog 53 #[va, vb] w (RetZ w (a + b)) := by
  obtain ⟨x, A, n, c, rfl, ha⟩ := ha
  obtain ⟨y, B, m, d, rfl, hb⟩ := hb
  have lA := ha.len bA
  have lB := hb.len bB
  obtain ⟨hx, X, hn, hs, dX, zX, vX⟩ := ha
  obtain ⟨hy, Y, hm, ht, dY, zY, vY⟩ := hb
  have hin : AddIn w (a + b) x y A n c B m d X Y ∨ (val X < val Y ∧ x ≠ y) := by
    by_cases h : x ≠ y ∧ val X < val Y
    · exact .inr ⟨h.2, h.1⟩
    · refine .inl ⟨hs, ht, dX, dY, hn, hm, lA, lB, ?_, fun h1 => by have : ¬ val X < val Y := fun h2 => h ⟨h1, h2⟩; omega⟩
      rw [vX, vY, hx, hy]; by_cases h1 : a < 0 <;> by_cases h2 : b < 0 <;> simp [sg, h1, h2] <;> omega
  have hin2 : val X < val Y → AddIn w (a + b) y x B m d A n c Y X := fun h => ⟨ht, hs, dY, dX, hm, hn, lB, lA, by
      rw [vX, vY, hx, hy]; by_cases h1 : a < 0 <;> by_cases h2 : b < 0 <;> simp [sg, h1, h2] <;> omega, fun _ => by omega⟩
  have hin1 : ¬ val X < val Y → AddIn w (a + b) x y A n c B m d X Y := fun h => hin.resolve_right fun h2 => h h2.1
  have HIN := Lib.hid hin
  have HIN1 := Lib.hid hin1
  have HIN2 := Lib.hid hin2
  have SZ := Lib.hid (fun W (h1 : Sl .i64 W (.slice A n c) X) (h2 : Sl .i64 W (.slice B m d) Y) => size_c _ _ X Y W h1 h2 dX dY zX zY (by omega) (by omega))
  have HS := Lib.hid hs
  have HT := Lib.hid ht
  clear hin hin1 hin2 hs ht dX dY zX zY vX vY hx hy hn hm bA bB
  go_enter Tryz.func53, Tryz.ntmps53
  go_upto_if 13 with fail
  go_cut [2] (fun s2 wx => s2 = .pointer (some ⟨w.heap.size, 0, none⟩) ∧ ∃ x y A n c B m d X Y, Hid (AddIn w (a + b) x y A n c B m d X Y) ∧ Blk wx w.heap.size 39 #[.bool x, .slice A n c] ∧ Blk wx (w.heap.size + 1) 39 #[.bool y, .slice B m d] ∧
    Blk wx (w.heap.size + 2) 39 #[.bool false, .slice none 0 0] ∧ wx.heap.size = w.heap.size + 3 ∧ Below w.heap.size w wx)
  case first =>
    cases x <;> cases y
    · go_wp2
      go_meet
      exact ⟨rfl, _, _, A, n, c, B, m, d, X, Y, HIN.out.resolve_right (fun h => h.2 rfl), new3 w _ _ _ _ _ _ 0⟩
    · by_cases hlt : val X < val Y
      · rw [cmpv_lt hlt] at SZ
        go_wp2_with (first | (go_at_call 60; (with_reducible refine (SZ.out _ (((HS.out.alloc _).alloc _).alloc _) (((HT.out.alloc _).alloc _).alloc _)).mono ?_); rintro e w' ⟨rfl, q, rfl⟩))
        go_meet
        exact ⟨rfl, _, _, B, m, d, A, n, c, Y, X, HIN2.out hlt, swap2 (new3 w _ _ _ _ _ _ q)⟩
      · have S2 := Lib.hid SZ
        have cb := cmpv_ge0 hlt
        go_wp2_with (first | (go_at_call 60; (with_reducible refine (SZ.out _ (((HS.out.alloc _).alloc _).alloc _) (((HT.out.alloc _).alloc _).alloc _)).mono ?_); rintro e w' ⟨rfl, q, rfl⟩))
        go_meet
        exact ⟨rfl, _, _, A, n, c, B, m, d, X, Y, HIN1.out hlt, new3 w _ _ _ _ _ _ q⟩
    · by_cases hlt : val X < val Y
      · rw [cmpv_lt hlt] at SZ
        go_wp2_with (first | (go_at_call 60; (with_reducible refine (SZ.out _ (((HS.out.alloc _).alloc _).alloc _) (((HT.out.alloc _).alloc _).alloc _)).mono ?_); rintro e w' ⟨rfl, q, rfl⟩))
        go_meet
        exact ⟨rfl, _, _, B, m, d, A, n, c, Y, X, HIN2.out hlt, swap2 (new3 w _ _ _ _ _ _ q)⟩
      · have S2 := Lib.hid SZ
        have cb := cmpv_ge0 hlt
        go_wp2_with (first | (go_at_call 60; (with_reducible refine (SZ.out _ (((HS.out.alloc _).alloc _).alloc _) (((HT.out.alloc _).alloc _).alloc _)).mono ?_); rintro e w' ⟨rfl, q, rfl⟩))
        go_meet
        exact ⟨rfl, _, _, A, n, c, B, m, d, X, Y, HIN1.out hlt, new3 w _ _ _ _ _ _ q⟩
    · go_wp2
      go_meet
      exact ⟨rfl, _, _, A, n, c, B, m, d, X, Y, HIN.out.resolve_right (fun h => h.2 rfl), new3 w _ _ _ _ _ _ 0⟩
  case rest =>
    obtain ⟨rfl, x, y, A, n, c, B, m, d, X, Y, hin, hb0, hb1, hb2, hsz, hbw⟩ := hcut
    have p0 := hb0.at_ 0 rfl
    have hnm : n ≤ 1000000 ∧ m ≤ 1000000 := ⟨hin.out.bx, hin.out.bY⟩
    obtain ⟨M, hM1, hM2, hM3, hM4⟩ : ∃ M, n ≤ M ∧ m ≤ M ∧ (M ≤ n ∨ M ≤ m) ∧ M ≤ 1000000 := by
      rcases Nat.le_total n m with h | h
      · exact ⟨m, h, Nat.le_refl _, .inr (Nat.le_refl _), hnm.2⟩
      · exact ⟨n, Nat.le_refl _, h, .inl (Nat.le_refl _), hnm.1⟩
    obtain ⟨s, hs⟩ : ∃ s, s = (x == y) := ⟨_, rfl⟩
    have HSS := Lib.hid hs
    have hs' := hs.symm
    clear hs
    cases s
    · go_wp2
      go_loopw [6, 7] (fun cv kv wr => ∃ (k : Nat) (cc : Int) (L : List Int) (A' : Option Addr) (k' c' : Nat), cv = .int .i64 cc ∧ kv = .int .i64 k ∧ Hid (AddI false X Y k cc L) ∧ (-1 ≤ cc ∧ cc ≤ 1) ∧ (k ≤ M ∨ k = M + 1 ∧ cc ≤ 0) ∧ Hid (k' = k) ∧ Own .i64 3 wr (w.heap.size + 4) (.slice A' k' c') L ∧
        Blk wr w.heap.size 39 #[.bool x, .slice A n c] ∧ Blk wr (w.heap.size + 1) 39 #[.bool y, .slice B m d] ∧ Blk wr (w.heap.size + 2) 39 #[.bool false, .slice none 0 0] ∧ Blk wr (w.heap.size + 3) 39 #[.bool x, .slice A' k' c'] ∧ Below w.heap.size w wr)
        (fun cv kv _ => mu M (intOf kv) (intOf cv))
      case atStart =>
        refine ⟨0, 0, [], none, 0, 0, rfl, rfl, AddI.start _ _ _, by omega, by omega, rfl, Own.nil _ _ _ _, hb0.alloc _, hb1.alloc _, hb2.alloc _, ?_, hbw.alloc (by omega) _⟩
        have := Blk.new wc 39 #[.bool x, .slice none 0 0]
        rw [hsz] at this
        exact this
      case round =>
        obtain ⟨k, cc, L, A', k', c', rfl, rfl, hI, hcc, hkM, hk', hown, hb0, hb1, hb2, hb3, hbw⟩ := hrel
        have hcs := hI.out.cd rfl
        have p00 := hb0.at_ 0 rfl
        have p01 := hb0.at_ 1 rfl
        have p10 := hb1.at_ 0 rfl
        have p11 := hb1.at_ 1 rfl
        have p31 := hb3.at_ 1 rfl
        have f31 := hb3.frozen 1
        have hsz3 := hb3.lt
        by_cases hka : k < n
        · by_cases hkb : k < m
          · obtain ⟨adx, cx, ex, _, _, hcx⟩ := (hin.out.sx.below hbw).at_ k (by rw [← hin.out.nx]; exact hka)
            injection ex with ex1 ex2 ex3
            subst ex1
            obtain ⟨xa, hxa⟩ : ∃ xa, X.getD k 0 = xa := ⟨_, rfl⟩
            rw [hxa] at hcx
            have bx := getD_dig hin.out.dx k
            rw [hxa] at bx
            have HX := Lib.hid hxa
            clear hxa ex2 ex3
            obtain ⟨ady, cy, ey, _, _, hcy⟩ := (hin.out.sy.below hbw).at_ k (by rw [← hin.out.ny]; exact hkb)
            injection ey with ey1 ey2 ey3
            subst ey1
            obtain ⟨yb, hyb⟩ : ∃ yb, Y.getD k 0 = yb := ⟨_, rfl⟩
            rw [hyb] at hcy
            have bY := getD_dig hin.out.dy k
            rw [hyb] at bY
            have HY := Lib.hid hyb
            clear hyb ey2 ey3
            go_wp2_with (at_builtin; refine app1 el_int rfl _ _ rfl rfl hown _ rfl (by have := hI.out.len; omega) (by omega) ?_; intro A2 k2 c2 w2 hk2 hown2 hg2 hat2; have q3 := hb3.grown hg2 (hown.ne hb3 (by decide)); have r1 := q3.at_ 1 rfl; have g1 := q3.frozen 1; clear p00 p01 p10 p11 p31 f31)
            all_goals
              have hlt := hown.lt
              have hbw2 : Below w.heap.size w w2 := hbw.grown hg2 (by omega) (fun g hg => by have := hown.lt g hg; omega)
              have q0 := hb0.grown hg2 (hown.ne hb0 (by decide))
              have q1 := hb1.grown hg2 (hown.ne hb1 (by decide))
              have q2 := hb2.grown hg2 (hown.ne hb2 (by decide))
              clear r1 g1
              go_roundw
              case rel =>
                refine ⟨k + 1, _, _, _, _, _, rfl, by go_num, hI.out.step _ _ (by omega) (by omega) (by omega) (by omega) (by intro h; first | omega | cases h) (by intro h; first | omega | cases h) (by simp only [HX.out, HY.out, Bool.false_eq_true, if_false]; omega), by omega, by omega, hk2.out.trans (by rw [hI.out.len]), hown2.low (by simp) _, q0.far (by simp) _, q1.far (by simp) _, q2.far (by simp) _, ?_, hbw2.setCell (by simp) _⟩
                simpa using q3.set_ 1 (.slice A2 k2 c2)
              case measure => exact mu_lt (by omega)
          · obtain ⟨adx, cx, ex, _, _, hcx⟩ := (hin.out.sx.below hbw).at_ k (by rw [← hin.out.nx]; exact hka)
            injection ex with ex1 ex2 ex3
            subst ex1
            obtain ⟨xa, hxa⟩ : ∃ xa, X.getD k 0 = xa := ⟨_, rfl⟩
            rw [hxa] at hcx
            have bx := getD_dig hin.out.dx k
            rw [hxa] at bx
            have HX := Lib.hid hxa
            clear hxa ex2 ex3
            have HY := Lib.hid (getD_out (show Y.length ≤ k by rw [← hin.out.ny]; omega))
            go_wp2_with (at_builtin; refine app1 el_int rfl _ _ rfl rfl hown _ rfl (by have := hI.out.len; omega) (by omega) ?_; intro A2 k2 c2 w2 hk2 hown2 hg2 hat2; have q3 := hb3.grown hg2 (hown.ne hb3 (by decide)); have r1 := q3.at_ 1 rfl; have g1 := q3.frozen 1; clear p00 p01 p10 p11 p31 f31)
            all_goals
              have hlt := hown.lt
              have hbw2 : Below w.heap.size w w2 := hbw.grown hg2 (by omega) (fun g hg => by have := hown.lt g hg; omega)
              have q0 := hb0.grown hg2 (hown.ne hb0 (by decide))
              have q1 := hb1.grown hg2 (hown.ne hb1 (by decide))
              have q2 := hb2.grown hg2 (hown.ne hb2 (by decide))
              clear r1 g1
              go_roundw
              case rel =>
                refine ⟨k + 1, _, _, _, _, _, rfl, by go_num, hI.out.step _ _ (by omega) (by omega) (by omega) (by omega) (by intro h; first | omega | cases h) (by intro h; first | omega | cases h) (by simp only [HX.out, HY.out, Bool.false_eq_true, if_false]; omega), by omega, by omega, hk2.out.trans (by rw [hI.out.len]), hown2.low (by simp) _, q0.far (by simp) _, q1.far (by simp) _, q2.far (by simp) _, ?_, hbw2.setCell (by simp) _⟩
                simpa using q3.set_ 1 (.slice A2 k2 c2)
              case measure => exact mu_lt (by omega)
        · by_cases hkb : k < m
          · have HX := Lib.hid (getD_out (show X.length ≤ k by rw [← hin.out.nx]; omega))
            obtain ⟨ady, cy, ey, _, _, hcy⟩ := (hin.out.sy.below hbw).at_ k (by rw [← hin.out.ny]; exact hkb)
            injection ey with ey1 ey2 ey3
            subst ey1
            obtain ⟨yb, hyb⟩ : ∃ yb, Y.getD k 0 = yb := ⟨_, rfl⟩
            rw [hyb] at hcy
            have bY := getD_dig hin.out.dy k
            rw [hyb] at bY
            have HY := Lib.hid hyb
            clear hyb ey2 ey3
            go_wp2_with (at_builtin; refine app1 el_int rfl _ _ rfl rfl hown _ rfl (by have := hI.out.len; omega) (by omega) ?_; intro A2 k2 c2 w2 hk2 hown2 hg2 hat2; have q3 := hb3.grown hg2 (hown.ne hb3 (by decide)); have r1 := q3.at_ 1 rfl; have g1 := q3.frozen 1; clear p00 p01 p10 p11 p31 f31)
            all_goals
              have hlt := hown.lt
              have hbw2 : Below w.heap.size w w2 := hbw.grown hg2 (by omega) (fun g hg => by have := hown.lt g hg; omega)
              have q0 := hb0.grown hg2 (hown.ne hb0 (by decide))
              have q1 := hb1.grown hg2 (hown.ne hb1 (by decide))
              have q2 := hb2.grown hg2 (hown.ne hb2 (by decide))
              clear r1 g1
              go_roundw
              case rel =>
                refine ⟨k + 1, _, _, _, _, _, rfl, by go_num, hI.out.step _ _ (by omega) (by omega) (by omega) (by omega) (by intro h; first | omega | cases h) (by intro h; first | omega | cases h) (by simp only [HX.out, HY.out, Bool.false_eq_true, if_false]; omega), by omega, by omega, hk2.out.trans (by rw [hI.out.len]), hown2.low (by simp) _, q0.far (by simp) _, q1.far (by simp) _, q2.far (by simp) _, ?_, hbw2.setCell (by simp) _⟩
                simpa using q3.set_ 1 (.slice A2 k2 c2)
              case measure => exact mu_lt (by omega)
          · by_cases hcp : 0 < cc
            · exact absurd hcp (by omega)
            · have hc0 : cc ≤ 0 := by omega
              have hv := hI.out.done (by rw [← hin.out.nx]; omega) (by rw [← hin.out.ny]; omega) hc0 (by first | (intro h; cases h; done) | (intro _; exact hin.out.ge (by intro h; subst h; simp at hs')))
              have hz : sg x (val L) = a + b := by
                rw [hv, ← hin.out.sum]
                first | (simp only [if_true]; obtain rfl : x = y := by simpa using hs') | (simp only [Bool.false_eq_true, if_false]; have hne : x ≠ y := by intro h; subst h; simp at hs')
                all_goals (cases x <;> (try cases y) <;> simp [sg] at * <;> omega)
              have TR := trim_c x A' k' c' L wr hown.sl hI.out.dig (by have := hI.out.len; omega)
              rw [hz] at TR
              have TR' := Lib.hid TR
              have p30 := hb3.at_ 0 rfl
              have r20 := hb2.at_ 0 rfl
              have r21 := hb2.at_ 1 rfl
              have s20 := hb2.frozen 0
              have s21 := hb2.frozen 1
              have hsz2 := hb2.lt
              clear TR hz hv
              go_wp2_with (first | (go_at_call 76; (with_reducible refine (TR'.out).mono ?_); rintro e w9 ⟨b9, n9, rfl, hm9, hv9, hb9⟩ ; obtain ⟨hc9, hf9⟩ := bcell hb9 ; have hz9 := hb9.size))
              have t0 : w9.cell? ⟨w.heap.size + 2, 0, none⟩ = some (.bool false) := (hb9.cell hsz2).trans r20
              have t1 : w9.cell? ⟨w.heap.size + 2, 1, none⟩ = some (.slice none 0 0) := (hb9.cell (p := ⟨w.heap.size + 2, 1, none⟩) hsz2).trans r21
              exact bodyPost_ret (v := .agg #[.bool b9, .slice A' n9 c']) (by simp [results, Tryz.results53, go_sem, t0, t1]) rfl (RetZ.cell (B0 := w.heap.size + 4) ⟨hv9, Fr.shrink hown.at_least hm9⟩ (by omega) (by omega) t0 t1 (hbw.trans (hb9.mono hbw.size)))
    · go_wp2
      go_loopw [6, 7] (fun cv kv wr => ∃ (k : Nat) (cc : Int) (L : List Int) (A' : Option Addr) (k' c' : Nat), cv = .int .i64 cc ∧ kv = .int .i64 k ∧ Hid (AddI true X Y k cc L) ∧ (-1 ≤ cc ∧ cc ≤ 1) ∧ (k ≤ M ∨ k = M + 1 ∧ cc ≤ 0) ∧ Hid (k' = k) ∧ Own .i64 3 wr (w.heap.size + 4) (.slice A' k' c') L ∧
        Blk wr w.heap.size 39 #[.bool x, .slice A n c] ∧ Blk wr (w.heap.size + 1) 39 #[.bool y, .slice B m d] ∧ Blk wr (w.heap.size + 2) 39 #[.bool false, .slice none 0 0] ∧ Blk wr (w.heap.size + 3) 39 #[.bool x, .slice A' k' c'] ∧ Below w.heap.size w wr)
        (fun cv kv _ => mu M (intOf kv) (intOf cv))
      case atStart =>
        refine ⟨0, 0, [], none, 0, 0, rfl, rfl, AddI.start _ _ _, by omega, by omega, rfl, Own.nil _ _ _ _, hb0.alloc _, hb1.alloc _, hb2.alloc _, ?_, hbw.alloc (by omega) _⟩
        have := Blk.new wc 39 #[.bool x, .slice none 0 0]
        rw [hsz] at this
        exact this
      case round =>
        obtain ⟨k, cc, L, A', k', c', rfl, rfl, hI, hcc, hkM, hk', hown, hb0, hb1, hb2, hb3, hbw⟩ := hrel
        have hcs := hI.out.cs rfl
        have p00 := hb0.at_ 0 rfl
        have p01 := hb0.at_ 1 rfl
        have p10 := hb1.at_ 0 rfl
        have p11 := hb1.at_ 1 rfl
        have p31 := hb3.at_ 1 rfl
        have f31 := hb3.frozen 1
        have hsz3 := hb3.lt
        by_cases hka : k < n
        · by_cases hkb : k < m
          · obtain ⟨adx, cx, ex, _, _, hcx⟩ := (hin.out.sx.below hbw).at_ k (by rw [← hin.out.nx]; exact hka)
            injection ex with ex1 ex2 ex3
            subst ex1
            obtain ⟨xa, hxa⟩ : ∃ xa, X.getD k 0 = xa := ⟨_, rfl⟩
            rw [hxa] at hcx
            have bx := getD_dig hin.out.dx k
            rw [hxa] at bx
            have HX := Lib.hid hxa
            clear hxa ex2 ex3
            obtain ⟨ady, cy, ey, _, _, hcy⟩ := (hin.out.sy.below hbw).at_ k (by rw [← hin.out.ny]; exact hkb)
            injection ey with ey1 ey2 ey3
            subst ey1
            obtain ⟨yb, hyb⟩ : ∃ yb, Y.getD k 0 = yb := ⟨_, rfl⟩
            rw [hyb] at hcy
            have bY := getD_dig hin.out.dy k
            rw [hyb] at bY
            have HY := Lib.hid hyb
            clear hyb ey2 ey3
            go_wp2_with (at_builtin; refine app1 el_int rfl _ _ rfl rfl hown _ rfl (by have := hI.out.len; omega) (by omega) ?_; intro A2 k2 c2 w2 hk2 hown2 hg2 hat2; have q3 := hb3.grown hg2 (hown.ne hb3 (by decide)); have r1 := q3.at_ 1 rfl; have g1 := q3.frozen 1; clear p00 p01 p10 p11 p31 f31)
            all_goals
              have hlt := hown.lt
              have hbw2 : Below w.heap.size w w2 := hbw.grown hg2 (by omega) (fun g hg => by have := hown.lt g hg; omega)
              have q0 := hb0.grown hg2 (hown.ne hb0 (by decide))
              have q1 := hb1.grown hg2 (hown.ne hb1 (by decide))
              have q2 := hb2.grown hg2 (hown.ne hb2 (by decide))
              clear r1 g1
              go_roundw
              case rel =>
                refine ⟨k + 1, _, _, _, _, _, rfl, by go_num, hI.out.step _ _ (by omega) (by omega) (by omega) (by omega) (by intro h; first | omega | cases h) (by intro h; first | omega | cases h) (by simp only [HX.out, HY.out, if_true]; omega), by omega, by omega, hk2.out.trans (by rw [hI.out.len]), hown2.low (by simp) _, q0.far (by simp) _, q1.far (by simp) _, q2.far (by simp) _, ?_, hbw2.setCell (by simp) _⟩
                simpa using q3.set_ 1 (.slice A2 k2 c2)
              case measure => exact mu_lt (by omega)
          · obtain ⟨adx, cx, ex, _, _, hcx⟩ := (hin.out.sx.below hbw).at_ k (by rw [← hin.out.nx]; exact hka)
            injection ex with ex1 ex2 ex3
            subst ex1
            obtain ⟨xa, hxa⟩ : ∃ xa, X.getD k 0 = xa := ⟨_, rfl⟩
            rw [hxa] at hcx
            have bx := getD_dig hin.out.dx k
            rw [hxa] at bx
            have HX := Lib.hid hxa
            clear hxa ex2 ex3
            have HY := Lib.hid (getD_out (show Y.length ≤ k by rw [← hin.out.ny]; omega))
            go_wp2_with (at_builtin; refine app1 el_int rfl _ _ rfl rfl hown _ rfl (by have := hI.out.len; omega) (by omega) ?_; intro A2 k2 c2 w2 hk2 hown2 hg2 hat2; have q3 := hb3.grown hg2 (hown.ne hb3 (by decide)); have r1 := q3.at_ 1 rfl; have g1 := q3.frozen 1; clear p00 p01 p10 p11 p31 f31)
            all_goals
              have hlt := hown.lt
              have hbw2 : Below w.heap.size w w2 := hbw.grown hg2 (by omega) (fun g hg => by have := hown.lt g hg; omega)
              have q0 := hb0.grown hg2 (hown.ne hb0 (by decide))
              have q1 := hb1.grown hg2 (hown.ne hb1 (by decide))
              have q2 := hb2.grown hg2 (hown.ne hb2 (by decide))
              clear r1 g1
              go_roundw
              case rel =>
                refine ⟨k + 1, _, _, _, _, _, rfl, by go_num, hI.out.step _ _ (by omega) (by omega) (by omega) (by omega) (by intro h; first | omega | cases h) (by intro h; first | omega | cases h) (by simp only [HX.out, HY.out, if_true]; omega), by omega, by omega, hk2.out.trans (by rw [hI.out.len]), hown2.low (by simp) _, q0.far (by simp) _, q1.far (by simp) _, q2.far (by simp) _, ?_, hbw2.setCell (by simp) _⟩
                simpa using q3.set_ 1 (.slice A2 k2 c2)
              case measure => exact mu_lt (by omega)
        · by_cases hkb : k < m
          · have HX := Lib.hid (getD_out (show X.length ≤ k by rw [← hin.out.nx]; omega))
            obtain ⟨ady, cy, ey, _, _, hcy⟩ := (hin.out.sy.below hbw).at_ k (by rw [← hin.out.ny]; exact hkb)
            injection ey with ey1 ey2 ey3
            subst ey1
            obtain ⟨yb, hyb⟩ : ∃ yb, Y.getD k 0 = yb := ⟨_, rfl⟩
            rw [hyb] at hcy
            have bY := getD_dig hin.out.dy k
            rw [hyb] at bY
            have HY := Lib.hid hyb
            clear hyb ey2 ey3
            go_wp2_with (at_builtin; refine app1 el_int rfl _ _ rfl rfl hown _ rfl (by have := hI.out.len; omega) (by omega) ?_; intro A2 k2 c2 w2 hk2 hown2 hg2 hat2; have q3 := hb3.grown hg2 (hown.ne hb3 (by decide)); have r1 := q3.at_ 1 rfl; have g1 := q3.frozen 1; clear p00 p01 p10 p11 p31 f31)
            all_goals
              have hlt := hown.lt
              have hbw2 : Below w.heap.size w w2 := hbw.grown hg2 (by omega) (fun g hg => by have := hown.lt g hg; omega)
              have q0 := hb0.grown hg2 (hown.ne hb0 (by decide))
              have q1 := hb1.grown hg2 (hown.ne hb1 (by decide))
              have q2 := hb2.grown hg2 (hown.ne hb2 (by decide))
              clear r1 g1
              go_roundw
              case rel =>
                refine ⟨k + 1, _, _, _, _, _, rfl, by go_num, hI.out.step _ _ (by omega) (by omega) (by omega) (by omega) (by intro h; first | omega | cases h) (by intro h; first | omega | cases h) (by simp only [HX.out, HY.out, if_true]; omega), by omega, by omega, hk2.out.trans (by rw [hI.out.len]), hown2.low (by simp) _, q0.far (by simp) _, q1.far (by simp) _, q2.far (by simp) _, ?_, hbw2.setCell (by simp) _⟩
                simpa using q3.set_ 1 (.slice A2 k2 c2)
              case measure => exact mu_lt (by omega)
          · by_cases hcp : 0 < cc
            · have HX := Lib.hid (getD_out (show X.length ≤ k by rw [← hin.out.nx]; omega))
              have HY := Lib.hid (getD_out (show Y.length ≤ k by rw [← hin.out.ny]; omega))
              go_wp2_with (at_builtin; refine app1 el_int rfl _ _ rfl rfl hown _ rfl (by have := hI.out.len; omega) (by omega) ?_; intro A2 k2 c2 w2 hk2 hown2 hg2 hat2; have q3 := hb3.grown hg2 (hown.ne hb3 (by decide)); have r1 := q3.at_ 1 rfl; have g1 := q3.frozen 1; clear p00 p01 p10 p11 p31 f31)
              all_goals
                have hlt := hown.lt
                have hbw2 : Below w.heap.size w w2 := hbw.grown hg2 (by omega) (fun g hg => by have := hown.lt g hg; omega)
                have q0 := hb0.grown hg2 (hown.ne hb0 (by decide))
                have q1 := hb1.grown hg2 (hown.ne hb1 (by decide))
                have q2 := hb2.grown hg2 (hown.ne hb2 (by decide))
                clear r1 g1
                go_roundw
                case rel =>
                  refine ⟨k + 1, _, _, _, _, _, rfl, by go_num, hI.out.step _ _ (by omega) (by omega) (by omega) (by omega) (by intro h; first | omega | cases h) (by intro h; first | omega | cases h) (by simp only [HX.out, HY.out, if_true]; omega), by omega, by omega, hk2.out.trans (by rw [hI.out.len]), hown2.low (by simp) _, q0.far (by simp) _, q1.far (by simp) _, q2.far (by simp) _, ?_, hbw2.setCell (by simp) _⟩
                  simpa using q3.set_ 1 (.slice A2 k2 c2)
                case measure => exact mu_lt (by omega)
            · have hc0 : cc ≤ 0 := by omega
              have hv := hI.out.done (by rw [← hin.out.nx]; omega) (by rw [← hin.out.ny]; omega) hc0 (by first | (intro h; cases h; done) | (intro _; exact hin.out.ge (by intro h; subst h; simp at hs')))
              have hz : sg x (val L) = a + b := by
                rw [hv, ← hin.out.sum]
                first | (simp only [if_true]; obtain rfl : x = y := by simpa using hs') | (simp only [Bool.false_eq_true, if_false]; have hne : x ≠ y := by intro h; subst h; simp at hs')
                all_goals (cases x <;> (try cases y) <;> simp [sg] at * <;> omega)
              have TR := trim_c x A' k' c' L wr hown.sl hI.out.dig (by have := hI.out.len; omega)
              rw [hz] at TR
              have TR' := Lib.hid TR
              have p30 := hb3.at_ 0 rfl
              have r20 := hb2.at_ 0 rfl
              have r21 := hb2.at_ 1 rfl
              have s20 := hb2.frozen 0
              have s21 := hb2.frozen 1
              have hsz2 := hb2.lt
              clear TR hz hv
              go_wp2_with (first | (go_at_call 76; (with_reducible refine (TR'.out).mono ?_); rintro e w9 ⟨b9, n9, rfl, hm9, hv9, hb9⟩ ; obtain ⟨hc9, hf9⟩ := bcell hb9 ; have hz9 := hb9.size))
              have t0 : w9.cell? ⟨w.heap.size + 2, 0, none⟩ = some (.bool false) := (hb9.cell hsz2).trans r20
              have t1 : w9.cell? ⟨w.heap.size + 2, 1, none⟩ = some (.slice none 0 0) := (hb9.cell (p := ⟨w.heap.size + 2, 1, none⟩) hsz2).trans r21
              exact bodyPost_ret (v := .agg #[.bool b9, .slice A' n9 c']) (by simp [results, Tryz.results53, go_sem, t0, t1]) rfl (RetZ.cell (B0 := w.heap.size + 4) ⟨hv9, Fr.shrink hown.at_least hm9⟩ (by omega) (by omega) t0 t1 (hbw.trans (hb9.mono hbw.size)))
end ZC
end Go.Proofs.YtelblhgagpkjmaaGreatDoor

/-
  The reference's whole numbers: the difference.
-/
namespace Go.Proofs.YtelblhgagpkjmaaGreatDoor
set_option linter.unusedVariables false
set_option linter.unusedSimpArgs false
open Go.RowKit
set_option linter.unusedVariables false
theorem below1 (w : World) (o1 : Obj) : Below w.heap.size w (w.alloc o1) := (Below.refl _ _).alloc (Nat.le_refl _) _
theorem below2 (w : World) (o1 o2 : Obj) : Below w.heap.size w ((w.alloc o1).alloc o2) := (below1 w o1).alloc (by simp) _
theorem below3 (w : World) (o1 o2 o3 : Obj) : Below w.heap.size w (((w.alloc o1).alloc o2).alloc o3) := (below2 w o1 o2).alloc (by simp; omega) _
theorem Blk.after {W w w' : World} {B g : Nat} {t : TypeId} {cs : Array Value} (hb : Below B W w') (h : Blk w g t cs) (e : W.heap = w.heap) (hg : g < B) : Blk w' g t cs := (hb.block g hg).trans ((congrArg (fun x => x[g]?) e).trans h)
namespace ZC
open Z
set_option maxHeartbeats 8000000 in
theorem ZSub_c (va vb : Value) (a b : Int) (w : World) (ha : ZV w va a) (hb : ZV w vb b) (bA : a.natAbs < big 1000000) (bB : b.natAbs < big 1000000) :
    Calls Tryz.prog 77 #[va, vb] w (RetZ w (a - b)) := by
  obtain ⟨x, A, n, c, rfl, ha⟩ := ha
  obtain ⟨y, B, m, d, rfl, hb⟩ := hb
  have NEG := Lib.hid (fun W (h : Below w.heap.size w W) => ZNeg_c _ b W (hb.below h).v bB)
  have ADD : Hid (∀ W v, Below w.heap.size w W → ZV W v (-b) → Calls Tryz.prog 53 #[.agg #[.bool x, .slice A n c], v] W (RetZ W (a - b))) := Lib.hid (fun W v h h2 => by rw [Int.sub_eq_add_neg]; exact ZAdd_c _ v a (-b) W (ha.below h).v h2 bA (by rw [Int.natAbs_neg]; exact bB))
  clear ha hb bA bB
  obtain ⟨N0, N1, N2, N3, N4⟩ := new3 w 39 39 39 #[.bool x, .slice A n c] #[.bool y, .slice B m d] #[.bool false, .slice none 0 0] 0
  have N0 := Lib.hid N0
  have N2 := Lib.hid N2
  have N3 := Lib.hid N3
  clear N1 N4
  go_enter Tryz.func77, Tryz.ntmps77
  go_wp2
  go_region_with (first
    | (go_at_call 55; (with_reducible refine (NEG.out _ (below3 w _ _ _).drew).mono ?_); rintro e w1 ⟨_, rfl, ⟨b1, A1, n1, c1, rfl, hv1⟩, hb1⟩; have M0 := Blk.after hb1 N0.out rfl (by simp; omega); have M2 := Blk.after hb1 N2.out rfl (by simp); have BW1 := (below3 w _ _ _).drew.trans (hb1.mono (below3 w _ _ _).drew.size); clear hb1; have p00 := M0.at_ 0 rfl; have p01 := M0.at_ 1 rfl; have p20 := M2.at_ 0 rfl; have p21 := M2.at_ 1 rfl; have f20 := M2.frozen 0; have f21 := M2.frozen 1)
    | (go_at_call 53; (with_reducible refine (ADD.out _ _ BW1 hv1.v).mono ?_); rintro e w2 ⟨_, rfl, ⟨b2, A2, n2, c2, rfl, hv2⟩, hb2⟩; have M02 := M0.below hb2 M0.lt; have M22 := M2.below hb2 M2.lt; have BW2 := BW1.trans (hb2.mono BW1.size); clear hb2; have p00 := M02.at_ 0 rfl; have p01 := M02.at_ 1 rfl; have p20 := M22.at_ 0 rfl; have p21 := M22.at_ 1 rfl; have f20 := M22.frozen 0; have f21 := M22.frozen 1))
  all_goals
    have t0 := M22.at_ 0 rfl
    have t1 := M22.at_ 1 rfl
    have R := Lib.hid (RetZ.cell hv2 BW1.size (show w.heap.size ≤ w.heap.size + 2 by omega) t0 t1 BW2)
    clear hv2 hv1 BW2 BW1 M0 M2 M02 M22
    go_wp2
    exact bodyPost_ret (v := .agg #[.bool b2, .slice A2 n2 c2]) (by simp [results, Tryz.results77, go_sem, t0, t1]) rfl R.out
end ZC
end Go.Proofs.YtelblhgagpkjmaaGreatDoor

/-
  The reference's whole numbers: one times the other.
-/
namespace Go.Proofs.YtelblhgagpkjmaaGreatDoor
set_option linter.unusedVariables false
set_option linter.unusedSimpArgs false
open Go.RowKit
set_option linter.unusedVariables false
namespace ZC
open Z
set_option maxRecDepth 100000 in
set_option maxHeartbeats 8000000 in
theorem ZMul_c (va vb : Value) (a b : Int) (w : World) (ha : ZV w va a) (hb : ZV w vb b) (bA : a.natAbs < big 1000000) (bB : b.natAbs < big 1000000) :
    Calls Tryz.prog 54 #[va, vb] w (RetZ w (a * b)) := by
  obtain ⟨x, A, n, c, rfl, ha⟩ := ha
  obtain ⟨y, B, m, d, rfl, hb⟩ := hb
  have lA := ha.len bA
  have lB := hb.len bB
  obtain ⟨hx, X, hn, hs, dX, zX, vX⟩ := ha
  obtain ⟨hy, Y, hm, ht, dY, zY, vY⟩ := hb
  have hfin : sg (!(x == y)) (val X * val Y) = a * b := by
    rw [vX, vY, hx, hy]
    by_cases h1 : a < 0 <;> by_cases h2 : b < 0 <;> simp [sg, h1, h2]
    · rw [show ((a.natAbs : Nat) : Int) = -a by omega, show ((b.natAbs : Nat) : Int) = -b by omega]; grind
    · rw [show ((a.natAbs : Nat) : Int) = -a by omega, show ((b.natAbs : Nat) : Int) = b by omega]; grind
    · rw [show ((a.natAbs : Nat) : Int) = a by omega, show ((b.natAbs : Nat) : Int) = -b by omega]; grind
    · rw [show ((a.natAbs : Nat) : Int) = a by omega, show ((b.natAbs : Nat) : Int) = b by omega]
  have HF := Lib.hid hfin
  have HS := Lib.hid hs
  have HT := Lib.hid ht
  have DX := Lib.hid dX
  have DY := Lib.hid dY
  have HN := Lib.hid hn
  have HM := Lib.hid hm
  clear hfin hs ht dX dY zX zY vX vY hx hy hn hm bA bB
  have hmk := run_make_row' (P := Tryz.prog) 37 3 (.int .i64 0) 8 Tryz.underlying37 (by kernel_rfl) rfl .i64 .i64 (n + m + 1) (by omega) (by omega)
  rw [show ((n + m + 1 : Nat) : Int) = (n : Int) + (m : Int) + 1 by omega] at hmk
  go_enter Tryz.func54, Tryz.ntmps54
  go_upto_region 1 with fail
  go_cut [5] (fun s5 wx => ∃ g gs, s5 = .pointer (some ⟨g, 0, none⟩) ∧ g ≠ gs ∧ w.heap.size + 3 ≤ g ∧ w.heap.size + 3 ≤ gs ∧ Blk wx w.heap.size 39 #[.bool x, .slice A n c] ∧ Blk wx (w.heap.size + 1) 39 #[.bool y, .slice B m d] ∧
    Blk wx (w.heap.size + 2) 39 #[.bool false, .slice none 0 0] ∧ Blk wx g 39 #[.bool (x != y), .slice (some ⟨gs, 0, none⟩) (n + m + 1) (n + m + 1)] ∧ Row .i64 3 wx gs (List.replicate (n + m + 1) 0) ∧ Below w.heap.size w wx)
  case first =>
    obtain ⟨N0, N1, N2, N3, N4⟩ := new3 w 39 39 39 #[.bool x, .slice A n c] #[.bool y, .slice B m d] #[.bool false, .slice none 0 0] 0
    have N0 := Lib.hid N0
    have N1 := Lib.hid N1
    have N2 := Lib.hid N2
    have N3 := Lib.hid N3
    have N4 := Lib.hid N4
    go_region
    all_goals
      go_wp2
      go_meet
    · exact ⟨w.heap.size + 4, w.heap.size + 3, rfl, by omega, by omega, by omega, ((N0.out.alloc _).alloc _).drew, ((N1.out.alloc _).alloc _).drew, ((N2.out.alloc _).alloc _).drew, (Blk.new' _ _ _ (by simp)).drew, (Row.alloc (Row.new' _ _ _ _ (by simp)) _).drew, ((N4.out.alloc (by simp; omega) _).alloc (by simp; omega) _).drew⟩
    · exact ⟨w.heap.size + 3, w.heap.size + 4, rfl, by omega, by omega, by omega, ((N0.out.alloc _).alloc _).drew, ((N1.out.alloc _).alloc _).drew, ((N2.out.alloc _).alloc _).drew, (Blk.alloc (Blk.new' _ _ _ (by simp)) _).drew, (Row.new' _ _ _ _ (by simp)).drew, ((N4.out.alloc (by simp; omega) _).alloc (by simp; omega) _).drew⟩
  case rest =>
    obtain ⟨g, gs, rfl, hne, hg, hgs, hb0, hb1, hb2, hb3, hrow, hbw⟩ := hcut
    clear hmk
    have p01 := hb0.at_ 1 rfl
    go_wp2
    clear p01
    go_loopw [29] (fun iv wr => ∃ (i : Nat) (L : List Int), iv = .int .i64 i ∧ i ≤ n ∧ Hid (MulI X Y (n + m + 1) i 0 (X.getD i 0) L) ∧ Blk wr w.heap.size 39 #[.bool x, .slice A n c] ∧ Blk wr (w.heap.size + 1) 39 #[.bool y, .slice B m d] ∧
      Blk wr (w.heap.size + 2) 39 #[.bool false, .slice none 0 0] ∧ Blk wr g 39 #[.bool (!(x == y)), .slice (some ⟨gs, 0, none⟩) (n + m + 1) (n + m + 1)] ∧ Row .i64 3 wr gs L ∧ Below w.heap.size w wr) (fun iv _ => n - (intOf iv).toNat)
    case atStart => exact ⟨0, _, rfl, by omega, MulI.start _ _ _, hb0, hb1, hb2, hb3, hrow, hbw⟩
    case round =>
      obtain ⟨i, L, rfl, hi, hI, hb0, hb1, hb2, hb3, hrow, hbw⟩ := hrel
      by_cases hin : i < n
      · obtain ⟨adx, cx, ex, _, _, hcx⟩ := (HS.out.below hbw).at_ i (by rw [← HN.out]; exact hin)
        injection ex with ex1 ex2 ex3
        subst ex1
        obtain ⟨xa, hxa⟩ : ∃ xa, X.getD i 0 = xa := ⟨_, rfl⟩
        rw [hxa] at hcx hI
        have bx := getD_dig DX.out i
        rw [hxa] at bx
        have HX := Lib.hid hxa
        clear hxa ex2 ex3
        have p11 := hb1.at_ 1 rfl
        go_wp2
        clear p11 hcx
        go_loopw [37] (fun jv wr => ∃ (j : Nat) (L : List Int), jv = .int .i64 j ∧ j ≤ m ∧ Hid (MulI X Y (n + m + 1) i j xa L) ∧ Blk wr w.heap.size 39 #[.bool x, .slice (some adx) n c] ∧ Blk wr (w.heap.size + 1) 39 #[.bool y, .slice B m d] ∧
          Blk wr (w.heap.size + 2) 39 #[.bool false, .slice none 0 0] ∧ Blk wr g 39 #[.bool (!(x == y)), .slice (some ⟨gs, 0, none⟩) (n + m + 1) (n + m + 1)] ∧ Row .i64 3 wr gs L ∧ Below w.heap.size w wr) (fun jv _ => m - (intOf jv).toNat)
        case atStart => exact ⟨0, _, rfl, by omega, hI, hb0, hb1, hb2, hb3, hrow, hbw⟩
        case round =>
          obtain ⟨j, L, rfl, hj, hI, hb0, hb1, hb2, hb3, hrow, hbw⟩ := hrel
          by_cases hjm : j < m
          · obtain ⟨ady, cy, ey, _, _, hcy⟩ := (HT.out.below hbw).at_ j (by rw [← HM.out]; exact hjm)
            injection ey with ey1 ey2 ey3
            subst ey1
            obtain ⟨yb, hyb⟩ : ∃ yb, Y.getD j 0 = yb := ⟨_, rfl⟩
            rw [hyb] at hcy
            have bY := getD_dig DY.out j
            rw [hyb] at bY
            have HY := Lib.hid hyb
            clear hyb ey2 ey3
            have p31 := hb3.at_ 1 rfl
            have rij := hrow.at_ (i + j) (by rw [hI.out.len]; omega)
            have fij := hrow.frozen (i + j)
            have hST := Lib.hid (hI.out.step bx bY HY.out (by omega))
            have lo := hI.out.lo (i + j)
            have hi' := hI.out.hi (i + j)
            obtain ⟨z, hz⟩ : ∃ z, L.getD (i + j) 0 = z := ⟨_, rfl⟩
            rw [hz] at rij lo hi' hST
            clear hz
            have hxy : 0 ≤ xa * yb := Int.mul_nonneg bx.1 bY.1
            have hxy2 : xa * yb ≤ 9999 * 9999 := Int.mul_le_mul (by omega) (by omega) bY.1 (by omega)
            go_wp2
            exact ⟨⟨j + 1, _, by simp, by omega, hST.out, hb0.far (by simp; omega) _, hb1.far (by simp; omega) _, hb2.far (by simp; omega) _, hb3.far (by simp; omega) _, hrow.set_ _ _, hbw.setCell (by simp; omega) _⟩, by simp only [intOf]; omega⟩
          · have hX2 := Lib.hid (hI.out.next HX.out (by have := HM.out; omega) (X.getD (i + 1) 0))
            go_wp2
            exact ⟨⟨i + 1, _, by simp, by omega, hX2.out, hb0, hb1, hb2, hb3, hrow, hbw⟩, by simp only [intOf]; omega⟩
      · have hC := Lib.hid (hI.out.carry (by have := HN.out; omega) (by omega))
        have hP := Lib.hid (mul_lt_pow DX.out DY.out HN.out.symm HM.out.symm)
        clear hI
        have p31 := hb3.at_ 1 rfl
        go_wp2
        clear p31
        go_loopw [59] (fun kv wr => ∃ (k : Nat) (L : List Int), kv = .int .i64 k ∧ k ≤ n + m + 1 ∧ Hid (CarI (val X * val Y) (n + m + 1) k L) ∧ Blk wr (w.heap.size + 2) 39 #[.bool false, .slice none 0 0] ∧ Blk wr g 39 #[.bool (!(x == y)), .slice (some ⟨gs, 0, none⟩) (n + m + 1) (n + m + 1)] ∧ Row .i64 3 wr gs L ∧ Below w.heap.size w wr) (fun kv _ => n + m + 1 - (intOf kv).toNat)
        case atStart => exact ⟨0, _, rfl, by omega, hC, hb2, hb3, hrow, hbw⟩
        case round =>
          obtain ⟨k, L, rfl, hk, hC, hb2, hb3, hrow, hbw⟩ := hrel
          have p31 := hb3.at_ 1 rfl
          have p30 := hb3.at_ 0 rfl
          by_cases hkn : k < n + m + 1
          · have rk := hrow.at_ k (by rw [hC.out.len]; omega)
            have fk := hrow.frozen k
            have lo := hC.out.lo k
            have hi2 := hC.out.hi k
            by_cases hz : 10000 ≤ L.getD k 0
            · have hl := hC.out.last hkn hP.out hz
              have rk1 := hrow.at_ (k + 1) (by rw [hC.out.len]; omega)
              have fk1 := hrow.frozen (k + 1)
              have lo1 := hC.out.lo (k + 1)
              have hi1 := hC.out.rest (k + 1) (by omega)
              have hS := hC.out.step hl
              obtain ⟨z, ez⟩ : ∃ z, L.getD k 0 = z := ⟨_, rfl⟩
              obtain ⟨z1, ez1⟩ : ∃ z, L.getD (k + 1) 0 = z := ⟨_, rfl⟩
              rw [ez] at rk lo hi2 hz hS
              rw [ez1] at rk1 lo1 hi1 hS
              rw [← Int.tdiv_eq_ediv_of_nonneg lo] at hS
              have hS' := Lib.hid hS
              have hd : 0 ≤ z.tdiv 10000 ∧ z.tdiv 10000 ≤ 20000000000 := by rw [Int.tdiv_eq_ediv_of_nonneg lo]; omega
              clear hS ez ez1
              go_wp2
              go_region
              go_wp2
              exact ⟨⟨k + 1, _, by simp, by omega, hS'.out, ((hb2.far (by simp; omega) _).far (by simp; omega) _).drew, ((hb3.far (by simp; omega) _).far (by simp; omega) _).drew, ((hrow.set_ _ _).set_ _ _).drew, ((hbw.setCell (by simp; omega) _).setCell (by simp; omega) _).drew⟩, by simp only [intOf]; omega⟩
            · have hS' := Lib.hid (hC.out.small (by omega))
              obtain ⟨z, ez⟩ : ∃ z, L.getD k 0 = z := ⟨_, rfl⟩
              rw [ez] at rk lo hi2 hz
              clear ez
              go_wp2
              exact ⟨⟨k + 1, _, by simp, by omega, hS'.out, hb2, hb3, hrow, hbw⟩, by simp only [intOf]; omega⟩
          · obtain rfl : k = n + m + 1 := by omega
            have TR := trim_c (!(x == y)) _ _ _ L wr (hrow.sl (n + m + 1) (by rw [hC.out.len]; omega)) hC.out.dig (by rw [hC.out.len]; omega)
            rw [hC.out.sum, HF.out, hC.out.len] at TR
            have TR' := Lib.hid TR
            have r20 := hb2.at_ 0 rfl
            have r21 := hb2.at_ 1 rfl
            have s20 := hb2.frozen 0
            have s21 := hb2.frozen 1
            have hsz2 := hb2.lt
            clear TR
            go_wp2_with (first | (go_at_call 76; (with_reducible refine (TR'.out).mono ?_); rintro e w9 ⟨b9, n9, rfl, hm9, hv9, hb9⟩ ; obtain ⟨hc9, hf9⟩ := bcell hb9 ; have hz9 := hb9.size))
            have t0 : w9.cell? ⟨w.heap.size + 2, 0, none⟩ = some (.bool false) := (hb9.cell hsz2).trans r20
            have t1 : w9.cell? ⟨w.heap.size + 2, 1, none⟩ = some (.slice none 0 0) := (hb9.cell (p := ⟨w.heap.size + 2, 1, none⟩) hsz2).trans r21
            exact bodyPost_ret (v := .agg #[.bool b9, .slice (some ⟨gs, 0, none⟩) n9 (n + m + 1)]) (by simp [results, Tryz.results54, go_sem, t0, t1]) rfl (RetZ.cell (B0 := gs) ⟨hv9, .inr ⟨_, rfl, Nat.le_refl _⟩⟩ (by omega) (by omega) t0 t1 (hbw.trans (hb9.mono hbw.size)))
end ZC
end Go.Proofs.YtelblhgagpkjmaaGreatDoor

/-
  The reference's whole numbers: powers of two.
-/
namespace Go.Proofs.YtelblhgagpkjmaaGreatDoor
set_option linter.unusedVariables false
set_option linter.unusedSimpArgs false
open Go.RowKit
set_option linter.unusedVariables false
namespace ZC
open Z
theorem pow2_bigN (n N : Nat) (h : n ≤ N) (hN : N ≠ 0) : ((2 : Int) ^ n).natAbs < big N := by
  have h1 : ((2 : Int) ^ n).natAbs = 2 ^ n := by rw [Int.natAbs_pow]; rfl
  rw [h1]; unfold big
  exact Nat.lt_of_le_of_lt (Nat.pow_le_pow_right (by decide) h) (Nat.pow_lt_pow_left (by decide) hN)
theorem pow2_big (n : Nat) (h : n ≤ 1000000) : ((2 : Int) ^ n).natAbs < big 1000000 := pow2_bigN n _ h (by decide)
theorem pow2_60 {n : Int} (h : n < 60) : (2 : Int) ^ n.toNat ≤ 576460752303423488 := by
  have : (2 : Nat) ^ n.toNat ≤ 2 ^ 59 := Nat.pow_le_pow_right (by omega) (by omega)
  have h2 : ((2 ^ n.toNat : Nat) : Int) ≤ ((2 ^ 59 : Nat) : Int) := Int.ofNat_le.2 this
  simpa using h2
set_option maxHeartbeats 8000000 in
theorem ZPow_c : ∀ (N : Nat) (n : Int) (w : World), 0 ≤ n → n.toNat ≤ N → n ≤ 1000000 → Calls Tryz.prog 36 #[.int .i64 n] w (RetZ w (2 ^ n.toNat)) := by
  intro N
  induction N with
  | zero =>
    intro n w h0 h1 h2
    obtain rfl : n = 0 := by omega
    have NC := Lib.hid (fun W => N_c 1 (by omega) (by omega) W)
    go_enter Tryz.func36, Tryz.ntmps36
    go_wp2_with (first | (go_at_call 28; (with_reducible refine (NC.out _).mono ?_); rintro e w1 ⟨_, rfl, ⟨b1, A1, n1, c1, rfl, hv1⟩, hb1⟩ ; obtain ⟨hc1, hf1⟩ := bcell hb1 ; have hz1 := hb1.size))
    have bw : Below w.heap.size w w1 := (below1 w _).trans (hb1.mono (by simp))
    have c0 : w1.cell? ⟨w.heap.size, 0, none⟩ = some (.bool false) := by rw [hb1.cell (by simp)]; simp [go_sem]
    have c1' : w1.cell? ⟨w.heap.size, 1, none⟩ = some (.slice none 0 0) := by rw [hb1.cell (by simp)]; simp [go_sem]
    exact bodyPost_ret (v := .agg #[.bool b1, .slice A1 n1 c1]) (by simp [results, Tryz.results36, go_sem, c0, c1']) rfl (RetZ.cell hv1 (by simp) (Nat.le_refl _) c0 c1' bw)
  | succ N ih =>
    intro n w h0 h1 h2
    by_cases hz : n = 0
    · exact ih n w h0 (by omega) h2
    · have hz1 : (n == 0) = false := by simpa using hz
      by_cases h6 : n < 60
      · have hb := pow2_60 h6
        have hp : (0 : Int) < 2 ^ n.toNat := Int.pow_pos (by decide)
        have e : wrap64 (2 ^ n.toNat) = 2 ^ n.toNat := by unfold wrap64; omega
        have NC := Lib.hid (fun W => N_c (2 ^ n.toNat) (by omega) (by omega) W)
        have E := Lib.hid e
        clear e hp hb ih
        go_enter Tryz.func36, Tryz.ntmps36
        go_wp2_with (go_at_call 28; rw [E.out]; (with_reducible refine (NC.out _).mono ?_); rintro e w1 ⟨_, rfl, ⟨b1, A1, n1, c1, rfl, hv1⟩, hb1⟩ ; obtain ⟨hc1, hf1⟩ := bcell hb1 ; have hz1 := hb1.size)
        have bw : Below w.heap.size w w1 := (below1 w _).trans (hb1.mono (by simp))
        have c0 : w1.cell? ⟨w.heap.size, 0, none⟩ = some (.bool false) := by rw [hb1.cell (by simp)]; simp [go_sem]
        have c1' : w1.cell? ⟨w.heap.size, 1, none⟩ = some (.slice none 0 0) := by rw [hb1.cell (by simp)]; simp [go_sem]
        exact bodyPost_ret (v := .agg #[.bool b1, .slice A1 n1 c1]) (by simp [results, Tryz.results36, go_sem, c0, c1']) rfl (RetZ.cell hv1 (by simp) (Nat.le_refl _) c0 c1' bw)
      · have P1 := Lib.hid (fun W => ih (n / 2) W (by omega) (by omega) (by omega))
        have P2 := Lib.hid (fun W => ih (n - n / 2) W (by omega) (by omega) (by omega))
        have MC := Lib.hid (fun va vb W h1 h2 => ZMul_c va vb (2 ^ (n / 2).toNat) (2 ^ (n - n / 2).toNat) W h1 h2 (pow2_big _ (by omega)) (pow2_big _ (by omega)))
        have hmul : (2 : Int) ^ (n / 2).toNat * 2 ^ (n - n / 2).toNat = 2 ^ n.toNat := by rw [← Int.pow_add]; congr 1; omega
        rw [hmul] at MC
        clear ih hmul
        go_enter Tryz.func36, Tryz.ntmps36
        have N0 := Lib.hid (Blk.new w 39 #[.bool false, .slice none 0 0])
        go_wp2_with (first | (go_at_call 36; (with_reducible refine (P1.out _).mono ?_); rintro e w1 ⟨_, rfl, ⟨b1, A1, n1, c1, rfl, hv1⟩, hb1⟩ ; obtain ⟨hc1, hf1⟩ := bcell hb1 ; have hz1 := hb1.size ; have M1 := Blk.after hb1 N0.out rfl (by simp) ; clear hc1 hf1) | (go_at_call 36; (with_reducible refine (P2.out _).mono ?_); rintro e w2 ⟨_, rfl, ⟨b2, A2, n2, c2, rfl, hv2⟩, hb2⟩ ; obtain ⟨hc2, hf2⟩ := bcell hb2 ; have hz2 := hb2.size ; have M2 := M1.below hb2 M1.lt ; clear hc2 hf2) | (go_at_call 54; (with_reducible refine (MC.out _ _ _ (hv1.below hb2).v hv2.v).mono ?_); rintro e w3 ⟨_, rfl, ⟨b3, A3, n3, c3, rfl, hv3⟩, hb3⟩ ; obtain ⟨hc3, hf3⟩ := bcell hb3 ; have hz3 := hb3.size ; have M3 := M2.below hb3 M2.lt; have p0 := M3.at_ 0 rfl; have p1 := M3.at_ 1 rfl; have f0 := M3.frozen 0; have f1 := M3.frozen 1; clear hc3 hf3))
        have bw : Below w.heap.size w w1 := (below1 w _).trans (hb1.mono (by simp))
        have bw2 := bw.trans (hb2.mono bw.size)
        have bw3 := bw2.trans (hb3.mono bw2.size)
        have c0 := M3.at_ 0 rfl
        have c1' := M3.at_ 1 rfl
        exact bodyPost_ret (v := .agg #[.bool b3, .slice A3 n3 c3]) (by simp [results, Tryz.results36, go_sem, c0, c1']) rfl (RetZ.cell hv3 bw2.size (Nat.le_refl _) c0 c1' bw3)
end ZC
end Go.Proofs.YtelblhgagpkjmaaGreatDoor

/-
  The reference's whole number of limbs (ZLimbs).
-/
namespace Go.Proofs.YtelblhgagpkjmaaGreatDoor
set_option linter.unusedVariables false
set_option linter.unusedSimpArgs false
open Go.RowKit
set_option linter.unusedVariables false
theorem Sl.drop {k : IntKind} {w : World} {L : List Int} {ad : Addr} {n c : Nat} (h : Sl k w (.slice (some ad) n c) L) (m : Nat) (hm : m ≤ L.length) : Sl k w (.slice (some (ad.add m)) (n - m) (c - m)) (L.drop m) := by
  obtain ⟨A', c', e, hc, h⟩ := h
  injection e with e1 e2 e3
  subst e1 e3
  subst e2
  refine ⟨some (ad.add m), c - m, by rw [List.length_drop], by rw [List.length_drop]; omega, ?_⟩
  rcases h with rfl | ⟨ad', e', hb, hr⟩
  · left; simp
  · injection e' with e'
    subst e'
    right
    refine ⟨_, rfl, by rw [block_of_add]; exact hb, fun j hj => ?_⟩
    rw [List.length_drop] at hj
    rw [add_of_add, hr (m + j) (by omega), List.getElem_drop]
namespace ZC
open Z
set_option maxHeartbeats 8000000 in
theorem ZLimbs_c : ∀ (N : Nat) (s : Value) (l : List Int) (w : World), Sl .u32 w s l → l.length ≤ N → l.length ≤ 30000 → L.Lim l → Calls Tryz.prog 62 #[s] w (RetZ w (L.lv l)) := by
  intro N
  induction N with
  | zero =>
    intro s l w hs h1 h2 h3
    obtain rfl := List.eq_nil_of_length_eq_zero (by omega : l.length = 0)
    obtain ⟨A, c, rfl, hc, _⟩ := hs.open_
    go_enter Tryz.func62, Tryz.ntmps62
    go_wp2
    exact bodyPost_ret (v := .agg #[.bool false, .slice none 0 0]) (by simp [results, Tryz.results62, go_sem]) rfl
      ⟨_, rfl, ⟨_, _, _, _, rfl, ZL.nil _ _ _, .inl rfl⟩, below1 w _⟩
  | succ N ih =>
    intro s l w hs h1 h2 h3
    by_cases hz : l.length ≤ N
    · exact ih s l w hs hz h2 h3
    · by_cases hone : l.length = 1
      · obtain ⟨d, rfl⟩ := List.length_eq_one_iff.1 hone
        obtain ⟨ad, c, rfl, hc, hb, hcell⟩ := hs.at_ 0 (by simp)
        rw [show ad.add 0 = ad by unfold Addr.add; simp] at hcell
        have hcell := (World.cell?_alloc_lt w (.cells #[.bool false, .slice none 0 0] 39) ad hb).trans hcell
        simp only [List.getD_cons_zero] at hcell
        have hd := h3 d (by simp)
        have NC := Lib.hid (fun W => N_c d (by omega) (by omega) W)
        have HL : L.lv [d] = d := by simp [L.lv]
        rw [HL]
        clear ih
        go_enter Tryz.func62, Tryz.ntmps62
        go_wp2_with (first | (go_at_call 28; (with_reducible refine (NC.out _).mono ?_); rintro e w1 ⟨_, rfl, ⟨b1, A1, n1, c1, rfl, hv1⟩, hb1⟩ ; obtain ⟨hc1, hf1⟩ := bcell hb1 ; have hz1 := hb1.size))
        have bw : Below w.heap.size w w1 := (below1 w _).trans (hb1.mono (by simp))
        have c0 : w1.cell? ⟨w.heap.size, 0, none⟩ = some (.bool false) := by rw [hb1.cell (by simp)]; simp [go_sem]
        have c1' : w1.cell? ⟨w.heap.size, 1, none⟩ = some (.slice none 0 0) := by rw [hb1.cell (by simp)]; simp [go_sem]
        exact bodyPost_ret (v := .agg #[.bool b1, .slice A1 n1 c1]) (by simp [results, Tryz.results62, go_sem, c0, c1']) rfl (RetZ.cell hv1 (by simp) (Nat.le_refl _) c0 c1' bw)
      · obtain ⟨n, hn⟩ : ∃ n, n = l.length := ⟨_, rfl⟩
        obtain ⟨ad, c, rfl, hc, hb, _⟩ := hs.at_ 0 (by omega)
        have hcut := L.lv_cut l (n / 2) (by omega)
        rw [← hn] at hs ⊢
        have S1 := Lib.hid (hs.take (n / 2) (by omega))
        have S2 := Lib.hid (hs.drop (n / 2) (by omega))
        have B1 := L.lv_big (h3.take (n / 2)) (by rw [List.length_take]; omega)
        have B2 := L.lv_big (h3.drop (n / 2)) (by rw [List.length_drop]; omega)
        have B3 : (L.lv (l.drop (n / 2)) * 2 ^ (32 * ((n : Int) / 2)).toNat).natAbs < big 1000000 := by
          rw [show (32 * ((n : Int) / 2)).toNat = 32 * (n / 2) by omega, ← L.pow_two]
          have a := L.lv_big h3 (by omega)
          have b := L.lv_nonneg (h3.take (n / 2))
          have c := L.lv_nonneg (h3.drop (n / 2))
          have d := Int.mul_nonneg c (Int.le_of_lt (L.pow_pos (n / 2)))
          rw [Int.mul_comm] at hcut
          omega
        have P1 := Lib.hid (fun W (h : Sl .u32 W (.slice (some ad) (n / 2) c) (l.take (n / 2))) => ih _ _ W h (by rw [List.length_take]; omega) (by rw [List.length_take]; omega) (h3.take _))
        have P2 := Lib.hid (fun W (h : Sl .u32 W (.slice (some (ad.add (n / 2))) (n - n / 2) (c - n / 2)) (l.drop (n / 2))) => ih _ _ W h (by rw [List.length_drop]; omega) (by rw [List.length_drop]; omega) (h3.drop _))
        have PW := Lib.hid (fun W => ZPow_c (32 * (n / 2)) (32 * ((n : Int) / 2)) W (by omega) (by omega) (by omega))
        have PM := Lib.hid (fun va vb W h1 h2 => ZMul_c va vb (L.lv (l.drop (n / 2))) (2 ^ (32 * ((n : Int) / 2)).toNat) W h1 h2 B2 (pow2_big _ (by omega)))
        have PA := Lib.hid (fun va vb W h1 h2 => ZAdd_c va vb (L.lv (l.take (n / 2))) (L.lv (l.drop (n / 2)) * 2 ^ (32 * ((n : Int) / 2)).toNat) W h1 h2 B1 B3)
        rw [show L.lv (l.take (n / 2)) + L.lv (l.drop (n / 2)) * 2 ^ (32 * ((n : Int) / 2)).toNat = L.lv l by rw [hcut, show (32 * ((n : Int) / 2)).toNat = 32 * (n / 2) by omega, ← L.pow_two, Int.mul_comm (4294967296 ^ (n / 2))]] at PA
        have N0 := Lib.hid (Blk.new w 39 #[.bool false, .slice none 0 0])
        rw [← hn] at hc h1 h2 hone hz
        have e0 : ((n : Int) == 0) = false := by simp; omega
        have e1 : ((n : Int) == 1) = false := by simp; omega
        clear ih hcut hs hn B1 B2 B3 h3
        go_enter Tryz.func62, Tryz.ntmps62
        go_wp2
        go_region_with (first
          | (go_at_call 62; (with_reducible refine (P1.out _ (S1.out.below (below1 w _).drew)).mono ?_); rintro e w1 ⟨_, rfl, ⟨b1, A1, n1, c1, rfl, hv1⟩, hb1⟩; have M1 := Blk.after hb1 N0.out rfl (by simp); have BW1 : Below w.heap.size w w1 := (below1 w _).drew.trans (hb1.mono (by simp)))
          | (go_at_call 62; (with_reducible refine (P2.out _ (S2.out.below BW1)).mono ?_); rintro e w2 ⟨_, rfl, ⟨b2, A2, n2, c2, rfl, hv2⟩, hb2⟩; have M2 := M1.below hb2 M1.lt; have BW2 : Below w.heap.size w w2 := BW1.trans (hb2.mono BW1.size))
          | (go_at_call 36; (with_reducible refine (PW.out _).mono ?_); rintro e w3 ⟨_, rfl, ⟨b3, A3, n3, c3, rfl, hv3⟩, hb3⟩; have M3 := M2.below hb3 M2.lt; have BW3 : Below w.heap.size w w3 := BW2.trans (hb3.mono BW2.size))
          | (go_at_call 54; (with_reducible refine (PM.out _ _ _ (hv2.below hb3).v hv3.v).mono ?_); rintro e w4 ⟨_, rfl, ⟨b4, A4, n4, c4, rfl, hv4⟩, hb4⟩; have M4 := M3.below hb4 M3.lt; have BW4 : Below w.heap.size w w4 := BW3.trans (hb4.mono BW3.size))
          | (go_at_call 53; (with_reducible refine (PA.out _ _ _ (((hv1.below hb2).below hb3).below hb4).v hv4.v).mono ?_); rintro e w5 ⟨_, rfl, ⟨b5, A5, n5, c5, rfl, hv5⟩, hb5⟩; have M5 := M4.below hb5 M4.lt; have BW5 : Below w.heap.size w w5 := BW4.trans (hb5.mono BW4.size); clear hb1 hb2 hb3 hb4 hb5; have p0 := M5.at_ 0 rfl; have p1 := M5.at_ 1 rfl; have f0 := M5.frozen 0; have f1 := M5.frozen 1))
        all_goals
          have t0 := M5.at_ 0 rfl
          have t1 := M5.at_ 1 rfl
          have R := Lib.hid (RetZ.cell hv5 BW4.size (Nat.le_refl _) t0 t1 BW5)
          clear hv5 hv4 hv3 hv2 hv1 BW5 BW4 BW3 BW2 BW1 M1 M2 M3 M4 M5
          go_wp2
          exact bodyPost_ret (v := .agg #[.bool b5, .slice A5 n5 c5]) (by simp [results, Tryz.results62, go_sem, t0, t1]) rfl R.out
end ZC
end Go.Proofs.YtelblhgagpkjmaaGreatDoor

/-
  The reference: is a list of limbs just a number, in its form?
-/
namespace Go.Proofs.YtelblhgagpkjmaaGreatDoor
set_option linter.unusedVariables false
set_option linter.unusedSimpArgs false
open Go.RowKit
set_option linter.unusedVariables false
theorem Sl.last {k : IntKind} {w : World} {s : Value} {l : List Int} (h : Sl k w s l) (hne : l ≠ []) : ∃ ad c, s = .slice (some ad) l.length c ∧ l.length ≤ c ∧ ad.block < w.heap.size ∧ w.cell? (ad.add (l.length - 1)) = some (.int k (l.getLast hne)) := by
  have h0 : 0 < l.length := List.length_pos_iff.2 hne
  obtain ⟨ad, c, e, hc, hb, hcell⟩ := h.at_ (l.length - 1) (by omega)
  refine ⟨ad, c, e, hc, hb, ?_⟩
  rw [hcell, List.getLast_eq_getElem, List.getD_eq_getElem?_getD, List.getElem?_eq_getElem (by omega)]; rfl
namespace ZC
open Z
/-- a list of limbs is just the number, in its form -/
def Is (l : List Int) (z : Int) : Prop := Nz l ∧ L.lv l = z
end ZC
end Go.Proofs.YtelblhgagpkjmaaGreatDoor

/-
  The reference: are limbs right? (LimbsRight, over a list of lists of limbs.)
-/
namespace Go.Proofs.YtelblhgagpkjmaaGreatDoor
set_option linter.unusedVariables false
set_option linter.unusedSimpArgs false
open Go.RowKit
set_option linter.unusedVariables false
namespace ZC
open Z
/-- what is told of one list of limbs: 2 too long, 3 a nought at its end, 0 right -/
def right (l : List Int) : Int := if 400 < l.length then 2 else if l.getLast? = some 0 then 3 else 0
/-- a slice of slices of limbs -/
def SS (w : World) (v : Value) (LL : List (List Int)) : Prop :=
  ∃ A c, v = .slice A LL.length c ∧ LL.length ≤ c ∧ ∀ j (h : j < LL.length), ∃ ad s, A = some ad ∧ w.cell? (ad.add j) = some s ∧ Sl .u32 w s LL[j]
end ZC
end Go.Proofs.YtelblhgagpkjmaaGreatDoor

/-
  Plain mathematics of the long division by digits.
-/
namespace Go.Proofs.YtelblhgagpkjmaaGreatDoor.Z
set_option linter.unusedVariables false
set_option linter.unusedSimpArgs false
structure DivI (X : List Int) (B : Int) (n k : Nat) (Q : List Int) (R : Int) : Prop where
  len : Q.length = n
  dig : Dig Q
  sum : val (Q.drop k) * B + R = val (X.drop k)
  r0 : 0 ≤ R
  r1 : R < B
theorem Dig.rep (n : Nat) : Dig (List.replicate n 0) := by intro d hd; rw [(List.mem_replicate.1 hd).2]; omega
theorem DivI.start (X : List Int) (B : Int) (hB : 0 < B) : DivI X B X.length X.length (List.replicate X.length 0) 0 := by
  refine ⟨by simp, Dig.rep _, ?_, by omega, hB⟩
  rw [List.drop_of_length_le (by simp), List.drop_of_length_le (by simp)]; simp [val]
theorem val_drop {L : List Int} {k : Nat} (h : k < L.length) : val (L.drop k) = L.getD k 0 + 10000 * val (L.drop (k + 1)) := by
  rw [List.drop_eq_getElem_cons h, List.getD_eq_getElem?_getD, List.getElem?_eq_getElem h]; rfl
theorem DivI.digit {X : List Int} {B : Int} {n k : Nat} {Q : List Int} {R m : Int} (h : DivI X B n (k + 1) Q R) (hX : Dig X) (hm : m * B ≤ X.getD k 0 + 10000 * R) (h0 : 0 ≤ m) : m < 10000 := by
  have h1 := getD_dig hX k
  have h2 := h.r1
  by_cases h3 : m < 10000
  · exact h3
  · have h3 : 10000 ≤ m := by omega
    have h4 := Int.mul_le_mul_of_nonneg_right h3 (show 0 ≤ B by have := h.r0; omega)
    omega
theorem DivI.step {X : List Int} {B : Int} {n k : Nat} {Q : List Int} {R m : Int} (h : DivI X B n (k + 1) Q R) (hX : Dig X) (hn : n = X.length) (hk : k < n) (h0 : 0 ≤ m) (hm : m * B ≤ X.getD k 0 + 10000 * R) (hm1 : X.getD k 0 + 10000 * R < (m + 1) * B) :
    DivI X B n k (Q.set k m) (X.getD k 0 + 10000 * R - m * B) := by
  have hd := h.digit hX hm h0
  refine ⟨by simp [h.len], ?_, ?_, by omega, by grind⟩
  · intro d hd'
    rcases List.mem_or_eq_of_mem_set hd' with h1 | h1
    · exact h.dig d h1
    · subst h1; omega
  · rw [val_drop (L := X) (by omega), val_drop (L := Q.set k m) (by rw [List.length_set, h.len]; exact hk), getD_set (by rw [h.len]; exact hk), if_pos rfl, List.drop_set_of_lt (by omega)]
    have := h.sum
    grind
theorem DivI.done {X : List Int} {B : Int} {n : Nat} {Q : List Int} {R : Int} (h : DivI X B n 0 Q R) : val Q * B + R = val X := by simpa using h.sum
/-- the quotient and the remainder by Euclid, from those without signs -/
theorem euclid {a b q r : Int} (hb : b ≠ 0) (h : q * (b.natAbs : Int) + r = (a.natAbs : Int)) (h0 : 0 ≤ r) (h1 : r < (b.natAbs : Int)) :
    a / b = (if (decide (a < 0)) = (decide (b < 0)) then (if a < 0 ∧ 0 < r then q + 1 else q) else - (if a < 0 ∧ 0 < r then q + 1 else q)) ∧
    a % b = (if a < 0 ∧ 0 < r then (b.natAbs : Int) - r else r) := by
  rcases Int.lt_or_lt_of_ne hb with hb | hb
  · rw [Int.ediv_emod_unique' hb]
    rw [show ((b.natAbs : Nat) : Int) = -b by omega] at *
    by_cases ha : a < 0 <;> by_cases hr : 0 < r <;> simp only [ha, hb, hr, decide_true, decide_false, and_true, and_false, false_and, if_true, if_false, reduceCtorEq] <;> (refine ⟨?_, ?_, ?_⟩) <;> (try rw [show ((a.natAbs : Nat) : Int) = -a by omega] at h) <;> (try rw [show ((a.natAbs : Nat) : Int) = a by omega] at h) <;> grind
  · rw [Int.ediv_emod_unique hb]
    rw [show ((b.natAbs : Nat) : Int) = b by omega] at *
    have hb' : ¬ b < 0 := by omega
    by_cases ha : a < 0 <;> by_cases hr : 0 < r <;> simp only [ha, hb', hr, decide_true, decide_false, and_true, and_false, true_and, false_and, if_true, if_false, reduceCtorEq] <;> (refine ⟨?_, ?_, ?_⟩) <;> (try rw [show ((a.natAbs : Nat) : Int) = -a by omega] at h) <;> (try rw [show ((a.natAbs : Nat) : Int) = a by omega] at h) <;> grind
theorem euclid' {a b q r Bv : Int} (hb : b ≠ 0) (e : Bv = (b.natAbs : Int)) (h : q * Bv + r = (a.natAbs : Int)) (h0 : 0 ≤ r) (h1 : r < Bv) :
    a / b = (if (decide (a < 0)) = (decide (b < 0)) then (if a < 0 ∧ 0 < r then q + 1 else q) else - (if a < 0 ∧ 0 < r then q + 1 else q)) ∧
    a % b = (if a < 0 ∧ 0 < r then Bv - r else r) := by
  subst e
  exact euclid hb h h0 h1
section
variable {a b q r Bv : Int} (hb : b ≠ 0) (e : Bv = (b.natAbs : Int)) (h : q * Bv + r = (a.natAbs : Int)) (h0 : 0 ≤ r) (h1 : r < Bv)
include hb e h h0 h1
theorem eu_ff (hx : false = decide (a < 0)) (hy : false = decide (b < 0)) : a / b = q ∧ a % b = r := by
  have E := euclid' hb e h h0 h1
  have hx' := hx.symm
  simp only [decide_eq_true_eq, decide_eq_false_iff_not] at hx'
  rw [← hx, ← hy] at E
  rw [E.1, E.2]
  simp [hx']
theorem eu_ft (hx : false = decide (a < 0)) (hy : true = decide (b < 0)) : a / b = -q ∧ a % b = r := by
  have E := euclid' hb e h h0 h1
  have hx' := hx.symm
  simp only [decide_eq_true_eq, decide_eq_false_iff_not] at hx'
  rw [← hx, ← hy] at E
  rw [E.1, E.2]
  simp [hx']
theorem eu_tf1 (hx : true = decide (a < 0)) (hy : false = decide (b < 0)) (hp : 0 < r) : a / b = -(q + 1) ∧ a % b = Bv - r := by
  have E := euclid' hb e h h0 h1
  have hx' := hx.symm
  simp only [decide_eq_true_eq, decide_eq_false_iff_not] at hx'
  rw [← hx, ← hy] at E
  rw [E.1, E.2]
  simp [hp, hx']
theorem eu_tf0 (hx : true = decide (a < 0)) (hy : false = decide (b < 0)) (hp : ¬ 0 < r) : a / b = -q ∧ a % b = r := by
  have E := euclid' hb e h h0 h1
  have hx' := hx.symm
  simp only [decide_eq_true_eq, decide_eq_false_iff_not] at hx'
  rw [← hx, ← hy] at E
  rw [E.1, E.2]
  simp [hp, hx']
theorem eu_tt1 (hx : true = decide (a < 0)) (hy : true = decide (b < 0)) (hp : 0 < r) : a / b = q + 1 ∧ a % b = Bv - r := by
  have E := euclid' hb e h h0 h1
  have hx' := hx.symm
  simp only [decide_eq_true_eq, decide_eq_false_iff_not] at hx'
  rw [← hx, ← hy] at E
  rw [E.1, E.2]
  simp [hp, hx']
theorem eu_tt0 (hx : true = decide (a < 0)) (hy : true = decide (b < 0)) (hp : ¬ 0 < r) : a / b = q ∧ a % b = r := by
  have E := euclid' hb e h h0 h1
  have hx' := hx.symm
  simp only [decide_eq_true_eq, decide_eq_false_iff_not] at hx'
  rw [← hx, ← hy] at E
  rw [E.1, E.2]
  simp [hp, hx']
end
end Go.Proofs.YtelblhgagpkjmaaGreatDoor.Z

