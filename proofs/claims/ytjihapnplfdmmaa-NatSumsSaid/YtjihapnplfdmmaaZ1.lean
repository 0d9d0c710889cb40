/-
  The reference's whole numbers: trim.
-/
import Derived.Test.YtjihapnplfdmmaaProg
import Derived.Test.YtjihapnplfdmmaaMem
import Derived.Test.YtjihapnplfdmmaaZPure
import Derived.WalkLawsBesides
import Derived.LoopTactic
import Derived.Lib.Hide
import Derived.Outline
import Derived.RegionTactic
import Derived.BigRegion
import Derived.Deep.QuietTactic
import Derived.BigQuiet
namespace Go.Proofs.Ytjihapnplfdmmaa
open Go.RowKit
set_option linter.unusedVariables false
namespace ZC
open Z
/-- a sign and a slice that hold the whole number 'z': its digits by ten thousand, with no nought at the end -/
def ZL (w : World) (b : Bool) (A : Option Addr) (n c : Nat) (z : Int) : Prop :=
  b = decide (z < 0) ∧ ∃ L, n = L.length ∧ Sl .i64 w (.slice A n c) L ∧ Dig L ∧ Nz L ∧ val L = z.natAbs
/-- the value 'v' holds the whole number 'z' -/
def ZV (w : World) (v : Value) (z : Int) : Prop := ∃ b A n c, v = .agg #[.bool b, .slice A n c] ∧ ZL w b A n c z
theorem ZL.keep {w w' : World} {b A n c z} (h : ZL w b A n c z) (hk : ∀ L, Sl .i64 w (.slice A n c) L → Sl .i64 w' (.slice A n c) L) : ZL w' b A n c z := by
  obtain ⟨e, L, hn, hs, h⟩ := h
  exact ⟨e, L, hn, hk L hs, h⟩
theorem ZL.below {w w' : World} {b A n c z} (h : ZL w b A n c z) (hb : Below w.heap.size w w') : ZL w' b A n c z := h.keep fun _ hs => hs.below hb
theorem ZL.alloc {w : World} {b A n c z} (h : ZL w b A n c z) (o : Obj) : ZL (w.alloc o) b A n c z := h.keep fun _ hs => hs.alloc o
theorem ZL.drew {w : World} {b A n c z} (h : ZL w b A n c z) : ZL w.drew b A n c z := h
theorem ZL.drewN {w : World} {b A n c z} (h : ZL w b A n c z) (k : Nat) : ZL (w.drewN k) b A n c z := h
theorem ZL.setCell {w : World} {b A n c z} (h : ZL w b A n c z) {p : Addr} {u : Value} (hu : w.cell? p = some u) (hk : ∀ z, u ≠ .int .i64 z) (x : Value) : ZL (w.setCell p x) b A n c z :=
  h.keep fun _ hs => hs.setCell hu hk x
theorem ZL.v {w : World} {b A n c z} (h : ZL w b A n c z) : ZV w (.agg #[.bool b, .slice A n c]) z := ⟨b, A, n, c, rfl, h⟩
theorem ZL.nil (w : World) (A : Option Addr) (c : Nat) : ZL w false A 0 c 0 := ⟨rfl, [], rfl, Sl.nil _ _ _ _, (by intro d h; cases h), fun h => absurd rfl h, rfl⟩
theorem ZL.len {w : World} {b A n c z} {N : Nat} (h : ZL w b A n c z) (hz : z.natAbs < big N) : n ≤ N := by
  obtain ⟨e, L, hn, hs, hd, hnz, hv⟩ := h
  rw [hn]; exact len_of hd hnz hv hz
theorem ZL.of {w : World} {b : Bool} {A n c} {z : Int} {L : List Int} (hb : b = decide (z < 0)) (hn : n = L.length) (hs : Sl .i64 w (.slice A n c) L) (hd : Dig L) (hz : Nz L) (hv : val L = z.natAbs) : ZL w b A n c z := ⟨hb, L, hn, hs, hd, hz, hv⟩
/-- an empty slice, or one in a block from number B on -/
def Fr (B : Nat) (A : Option Addr) (n : Nat) : Prop := n = 0 ∨ ∃ ad, A = some ad ∧ B ≤ ad.block
theorem Fr.mono {B B' : Nat} {A : Option Addr} {n : Nat} (h : Fr B' A n) (hB : B ≤ B') : Fr B A n := h.imp id fun ⟨ad, e, h⟩ => ⟨ad, e, Nat.le_trans hB h⟩
theorem Fr.shrink {B : Nat} {A : Option Addr} {n m : Nat} (h : Fr B A n) (hm : m ≤ n) : Fr B A m := h.imp (fun h => by omega) id
/-- a whole number whose digits lie in a block from number B on -/
def ZLF (w : World) (B : Nat) (b : Bool) (A : Option Addr) (n c : Nat) (z : Int) : Prop := ZL w b A n c z ∧ Fr B A n
theorem ZLF.zl {w : World} {B b A n c z} (h : ZLF w B b A n c z) : ZL w b A n c z := h.1
theorem ZLF.fr {w : World} {B b A n c z} (h : ZLF w B b A n c z) : Fr B A n := h.2
theorem ZLF.v {w : World} {B b A n c z} (h : ZLF w B b A n c z) : ZV w (.agg #[.bool b, .slice A n c]) z := h.1.v
theorem ZLF.below {w w' : World} {B b A n c z} (h : ZLF w B b A n c z) (hb : Below w.heap.size w w') : ZL w' b A n c z := h.1.below hb
/-- a whole number in new memory -/
def RetZ (w : World) (z : Int) (e : Ending) (w' : World) : Prop := ∃ v, e = .returned v ∧ (∃ b A n c, v = .agg #[.bool b, .slice A n c] ∧ ZLF w' w.heap.size b A n c z) ∧ Below w.heap.size w w'
/-- a whole number, wherever -/
def RetZ0 (w : World) (z : Int) (e : Ending) (w' : World) : Prop := ∃ v, e = .returned v ∧ ZV w' v z ∧ Below w.heap.size w w'
/-- a whole number in the same slice as was handed in, maybe shorter -/
def RetT (w : World) (A : Option Addr) (n c : Nat) (z : Int) (e : Ending) (w' : World) : Prop := ∃ b m, e = .returned (.agg #[.bool b, .slice A m c]) ∧ m ≤ n ∧ ZL w' b A m c z ∧ Below w.heap.size w w'
theorem trim_end {w W : World} {neg nb : Bool} {A : Option Addr} {n c k : Nat} {L : List Int} (hs : Sl .i64 w (.slice A n c) L) (hb : Below w.heap.size w W) (hd : Dig L) (hn : n = L.length) (hk : k ≤ n)
    (ht : Tz L k) (hz : k = 0 ∨ L.getD (k - 1) 0 ≠ 0) (hnb : nb = (neg && decide (0 < k))) : RetT w A n c (sg neg (val L)) (.returned (.agg #[.bool nb, .slice A k c])) W := by
  subst hn
  have hnz := Nz_take hk hz
  have hv := val_take ht
  have hd' := hd.take k
  refine ⟨nb, k, rfl, hk, ⟨?_, L.take k, by rw [List.length_take, Nat.min_eq_left hk], (hs.below hb).take k hk, hd', hnz, by rw [hv, sg_abs neg _ (val_nonneg hd)]⟩, hb⟩
  rcases Nat.eq_zero_or_pos k with rfl | hk0
  · rw [← hv]; simp [hnb, val, sg]
  · have hne : L.take k ≠ [] := by
      intro h; have := congrArg List.length h; simp at this; rcases this with h | h
      · omega
      · subst h; simp at hk; omega
    have hp := val_pos hd' hnz hne
    rw [hv] at hp
    rw [sg_lt neg _ hp, hnb]; simp [hk0]
theorem trim_c (neg : Bool) (A : Option Addr) (n c : Nat) (L : List Int) (w : World) (hs : Sl .i64 w (.slice A n c) L) (hd : Dig L) (hn : L.length ≤ 1000000000) :
    Calls Try.prog 29 #[.agg #[.bool neg, .slice A n c]] w (RetT w A n c (sg neg (val L))) := by
  obtain ⟨A', c', e, hc, hcell⟩ := hs.open_
  injection e with e1 e2 e3
  subst e1
  subst e3
  rw [← e2] at hn hc
  have HN := Lib.hid e2
  clear e2
  go_enter Try.func29, Try.ntmps29
  go_wp2
  have hs2 := (hs.alloc (.cells #[.bool neg, .slice A n c] 34)).alloc (.cells #[.bool false, .slice none 0 0] 34)
  have HS := Lib.hid hs2
  have HS0 := Lib.hid hs
  have HD := Lib.hid hd
  clear hs hs2 hcell hd
  go_loop [3] (fun i => ∃ k : Nat, k ≤ n ∧ i = .int .i64 k ∧ Tz L k) (fun i => (intOf i).toNat)
  case atStart => exact ⟨n, Nat.le_refl _, rfl, by rw [HN.out]; exact Tz_all L⟩
  case round =>
    obtain ⟨k, hk, rfl, htz⟩ := hrel
    have HT := Lib.hid htz
    clear htz
    by_cases hk0 : 0 < k
    · obtain ⟨ad, c', e, hc', hb, hcell⟩ := HS.out.at_ (k - 1) (by rw [← HN.out]; omega)
      injection e with e1 e2 e3
      subst e1
      clear e2 e3 hc' c' hb
      obtain ⟨z, hz⟩ : ∃ z, L.getD (k - 1) 0 = z := ⟨_, rfl⟩
      rw [hz] at hcell
      have HZ := Lib.hid hz
      clear hz
      by_cases h0 : z = 0
      · have h1 : (z == 0) = true := by simp [h0]
        clear h0
        go_wp2
        go_round
        case rel => exact ⟨k - 1, by omega, by go_num, Tz_pred L k hk0 (by rw [← HN.out]; exact hk) (by rw [HZ.out]; simpa using h1) HT.out⟩
        case measure => simp [intOf]; omega
      · have h1 : (z == 0) = false := by simp [h0]
        clear h0
        have h3 : decide (0 < (k : Int)) = true := by simpa using hk0
        cases neg
        · go_wp2
          go_region
          go_wp2
          exact bodyPost_ret (v := .agg #[.bool false, .slice (some ad) k c]) (by simp [results, Try.results29, go_sem]) rfl
            (trim_end HS0.out (((Below.refl _ _).alloc (Nat.le_refl _) _).alloc (by simp) _).drew HD.out HN.out hk HT.out (.inr (by rw [HZ.out]; simpa using h1)) (by simp [hk0]))
        · go_wp2
          go_region
          go_wp2
          exact bodyPost_ret (v := .agg #[.bool true, .slice (some ad) k c]) (by simp [results, Try.results29, go_sem]) rfl
            (trim_end HS0.out (((Below.refl _ _).alloc (Nat.le_refl _) _).alloc (by simp) _).drew HD.out HN.out hk HT.out (.inr (by rw [HZ.out]; simpa using h1)) (by simp [hk0]))
    · obtain rfl : k = 0 := by omega
      cases neg
      · go_wp2
        go_region
        go_wp2
        exact bodyPost_ret (v := .agg #[.bool false, .slice A 0 c]) (by simp [results, Try.results29, go_sem]) rfl
          (trim_end HS0.out (((Below.refl _ _).alloc (Nat.le_refl _) _).alloc (by simp) _).drew HD.out HN.out hk HT.out (.inl rfl) (by simp [hk0]))
      · go_wp2
        go_region
        go_wp2
        exact bodyPost_ret (v := .agg #[.bool false, .slice A 0 c]) (by simp [results, Try.results29, go_sem]) rfl
          (trim_end HS0.out (((Below.refl _ _).alloc (Nat.le_refl _) _).alloc (by simp) _).drew HD.out HN.out hk HT.out (.inl rfl) (by simp [hk0]))
theorem drew2 (w : World) (a b : Nat) : ∃ n, (w.drewN a).drewN b = w.drewN n := ⟨a + b, by rw [World.drewN_drewN]⟩
theorem drew3 (w : World) (a b c : Nat) : ∃ n, ((w.drewN a).drewN b).drewN c = w.drewN n := ⟨a + b + c, by rw [World.drewN_drewN, World.drewN_drewN, Nat.add_assoc]⟩
def RetQ (w : World) (v : Value) (e : Ending) (w' : World) : Prop := e = .returned v ∧ ∃ n, w' = w.drewN n
theorem size_c (s t : Value) (L M : List Int) (w : World) (hs : Sl .i64 w s L) (ht : Sl .i64 w t M) (hL : Dig L) (hM : Dig M) (nL : Nz L) (nM : Nz M) (bL : L.length ≤ 1000000000) (bM : M.length ≤ 1000000000) :
    Calls Try.prog 28 #[s, t] w (RetQ w (.int .i64 (cmpv (val L) (val M)))) := by
  obtain ⟨n, hn⟩ : ∃ n, n = L.length := ⟨_, rfl⟩
  obtain ⟨m, hm⟩ : ∃ m, m = M.length := ⟨_, rfl⟩
  obtain ⟨A, c, rfl, hc, hcL⟩ := hs.open_
  obtain ⟨B, d, rfl, hd, hcM⟩ := ht.open_
  rw [← hn] at bL hc hcL ⊢
  rw [← hm] at bM hd hcM ⊢
  obtain ⟨r, hr⟩ : ∃ r, r = cmpv (val L) (val M) := ⟨_, rfl⟩
  rw [← hr]
  have HR := Lib.hid hr
  have HN := Lib.hid hn
  have HM := Lib.hid hm
  have CL := Lib.hid hcL
  have CM := Lib.hid hcM
  have DL := Lib.hid hL
  have DM := Lib.hid hM
  have NL := Lib.hid nL
  have NM := Lib.hid nM
  clear hr hn hm hcL hcM hL hM nL nM hs ht
  by_cases h1 : n < m
  · have e1 : ((n : Int) != (m : Int)) = true := by rw [bne_iff_ne]; omega
    go_enter Try.func28, Try.ntmps28
    go_wp2
    go_ret
    exact ⟨ret_int (by rw [HR.out, cmpv_lt (val_len DL.out DM.out NM.out (by rw [← HN.out, ← HM.out]; exact h1))]), 0, rfl⟩
  · by_cases h2 : m < n
    · have e1 : ((n : Int) != (m : Int)) = true := by rw [bne_iff_ne]; omega
      go_enter Try.func28, Try.ntmps28
      go_wp2
      go_ret
      exact ⟨ret_int (by rw [HR.out, cmpv_gt (val_len DM.out DL.out NL.out (by rw [← HN.out, ← HM.out]; exact h2))]), 0, rfl⟩
    · obtain rfl : n = m := by omega
      have e1 : ((n : Int) != (n : Int)) = false := by simp
      clear h1 h2
      go_enter Try.func28, Try.ntmps28
      go_wp2
      go_loopw [5] (fun i wr => ∃ k : Nat, k ≤ n ∧ i = .int .i64 ((k : Int) - 1) ∧ Hid (L.drop k = M.drop k) ∧ ∃ q, wr = w.drewN q) (fun i _ => (intOf i + 1).toNat)
      case atStart => exact ⟨n, Nat.le_refl _, rfl, by have a := HN.out; have b := HM.out; show L.drop n = M.drop n; rw [List.drop_of_length_le (by omega), List.drop_of_length_le (by omega)], 0, rfl⟩
      case round =>
        obtain ⟨k, hk, rfl, hdr, q, rfl⟩ := hrel
        by_cases hk0 : 0 < k
        · obtain ⟨ad, rfl, hb, hca⟩ := CL.out (k - 1) (by omega)
          obtain ⟨ad', rfl, hb', hcb⟩ := CM.out (k - 1) (by omega)
          obtain ⟨x, hx⟩ : ∃ x, L.getD (k - 1) 0 = x := ⟨_, rfl⟩
          obtain ⟨y, hy⟩ : ∃ y, M.getD (k - 1) 0 = y := ⟨_, rfl⟩
          rw [hx] at hca
          rw [hy] at hcb
          have HX := Lib.hid hx
          have HY := Lib.hid hy
          clear hx hy hb hb'
          have kL : k - 1 < L.length := by have := HN.out; omega
          have kM : k - 1 < M.length := by have := HM.out; omega
          have hdr' : Hid (L.drop (k - 1 + 1) = M.drop (k - 1 + 1)) := by rw [show k - 1 + 1 = k by omega]; exact hdr
          by_cases h1 : x < y
          · go_wp2
            go_quiet (fail)
            go_wp2
            go_ret
            exact ⟨ret_int (by rw [HR.out, cmpv_lt (val_at_lt DL.out DM.out kL kM hdr' (by rw [HX.out, HY.out]; exact h1))]), drew2 _ _ _⟩
          · by_cases h2 : y < x
            · go_wp2
              go_quiet (fail)
              go_wp2
              go_quiet (fail)
              go_wp2
              go_ret
              exact ⟨ret_int (by rw [HR.out, cmpv_gt (val_at_lt DM.out DL.out kM kL hdr'.symm (by rw [HX.out, HY.out]; exact h2))]), drew3 _ _ _ _⟩
            · go_wp2
              go_quiet (fail)
              go_wp2
              go_quiet (fail)
              go_wp2
              go_roundw
              case rel => exact ⟨k - 1, by omega, by go_num, drop_same kL kM hdr' (by rw [HX.out, HY.out]; omega), _, rfl⟩
              case measure => simp [intOf]; omega
        · obtain rfl : k = 0 := by omega
          go_wp2
          go_ret
          exact ⟨ret_int (by rw [HR.out, cmpv_eq (by simpa using congrArg val hdr)]), _, rfl⟩
theorem below_drewN {B : Nat} {a w : World} (h : Below B a w) (n : Nat) : Below B a (w.drewN n) := ⟨h.os, h.tape, h.output, h.size, h.block⟩
theorem ZCmp_c (va vb : Value) (a b : Int) (w : World) (ha : ZV w va a) (hb : ZV w vb b) (bA : a.natAbs < big 1000000) (bB : b.natAbs < big 1000000) :
    Calls Try.prog 17 #[va, vb] w fun e w' => e = .returned (.int .i64 (cmpv a b)) ∧ Below w.heap.size w w' := by
  obtain ⟨na, A, n, c, rfl, ha⟩ := ha
  obtain ⟨nb, B, m, d, rfl, hb⟩ := hb
  have ha' := (ha.alloc (.cells #[.bool na, .slice A n c] 34)).alloc (.cells #[.bool nb, .slice B m d] 34)
  have hb' := (hb.alloc (.cells #[.bool na, .slice A n c] 34)).alloc (.cells #[.bool nb, .slice B m d] 34)
  have lL := ha.len bA
  have lM := hb.len bB
  obtain ⟨hna, L, hn, hs, dL, nL, vL⟩ := ha'
  obtain ⟨hnb, M, hm, ht, dM, nM, vM⟩ := hb'
  have SZ := Lib.hid (size_c (.slice A n c) (.slice B m d) L M _ hs ht dL dM nL nM (by omega) (by omega))
  have cb := cmpv_bd (val L) (val M)
  have fin : ∀ r, r = (if na then (if nb then - cmpv (val L) (val M) else -1) else (if nb then 1 else cmpv (val L) (val M))) → r = cmpv a b := by
    intro r hr
    rw [hr, hna, hnb, vL, vM]
    unfold cmpv
    by_cases h1 : a < 0 <;> by_cases h2 : b < 0 <;> simp [h1, h2] <;> (repeat (first | omega | split))
  have FIN := Lib.hid fin
  clear hna hnb fin vL vM dL dM nL nM lL lM bA bB hs ht hn hm ha hb
  cases na <;> cases nb
  all_goals
    go_enter Try.func17, Try.ntmps17
    go_wp2_with (first | (go_at_call 28; (with_reducible refine (SZ.out).mono ?_); rintro e w' ⟨rfl, n, rfl⟩))
    go_ret
    exact ⟨ret_int (FIN.out _ (by simp)), by repeat (first | exact Below.refl _ _ | apply below_drewN | apply Below.drew | refine Below.alloc ?_ (by simp) _)⟩
end ZC
end Go.Proofs.Ytjihapnplfdmmaa
