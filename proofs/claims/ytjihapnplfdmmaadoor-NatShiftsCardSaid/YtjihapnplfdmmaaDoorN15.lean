/-
  Package nat: divideBy; bytes.TrimRight and slices.Reverse of bytes.
-/
import Derived.Test.YtjihapnplfdmmaaDoorN14
import Derived.Test.YtjihapnplfdmmaaDoorNTextP
import Derived.Laws.IdiomStrings
namespace Go.Proofs.YtjihapnplfdmmaaDoor
open Go.RowKit
set_option linter.unusedVariables false
namespace NC
open L
open Z (Nz Tz cmpv)
theorem divideBy_c (g o n c : Nat) (cs : Array Value) (X : List Int) (q : Int) (w : World) (hb : Blk w g 50 cs) (hx : Wn cs o X) (hn : X.length = n) (LX : Lim X) (hN : n ≤ 1000000000) (hc : n ≤ c) (hq : 0 < q ∧ q < 4294967296) :
    Calls Tryd.prog 40 #[.slice (some ⟨g, o, none⟩) n c, .int .u32 q] w (RetEd w g cs o n fun M k => lv M = lv X / q ∧ k = lv X % q) := by
  have E0 := Lib.hid (Ed.start hb hx hn)
  have HX := Lib.hid LX
  have I0 := DbI.start (q := q) LX hq.1
  rw [hn] at I0
  have I0 := Lib.hid I0
  have HN := Lib.hid hn
  clear hb hx LX hn
  go_enter Tryd.func40, Tryd.ntmps40
  go_wp2
  go_loopw [6, 5] (fun iv rv wr => ∃ (k : Nat) (M : List Int) (r : Int), iv = .int .i64 ((k : Int) - 1) ∧ k ≤ n ∧ rv = .int .u64 r ∧ Hid (DbI X q k M r) ∧ Hid (Ed w wr g cs o n M)) (fun iv _ _ => (intOf iv + 1).toNat)
  case atStart => exact ⟨n, X, 0, rfl, Nat.le_refl _, rfl, I0, E0⟩
  case round =>
    obtain ⟨k, M, r, rfl, hk, rfl, hI, hE⟩ := hrel
    have r0 := hI.out.r0
    have r1 := hI.out.r1
    by_cases hk0 : 0 < k
    · obtain ⟨i, rfl⟩ : ∃ i, k = i + 1 := ⟨k - 1, by omega⟩
      have ik : ((i + 1 : Nat) : Int) - 1 = i := by omega
      have hin : i < n := by omega
      have hxc := hE.out.cell i hin
      rw [hI.out.rest i (by omega)] at hxc
      have fx := hE.out.frozen (o + i)
      have bx := HX.out.at_ i
      obtain ⟨x, ex⟩ : ∃ x, X.getD i 0 = x := ⟨_, rfl⟩
      rw [ex] at hxc bx
      obtain ⟨s1, z1, z0⟩ := hI.out.step (by rw [HN.out]; exact hin) ex bx.1 bx.2
      have hor : bits .or .u64 (r * 4294967296) x = r * 4294967296 + x := or_high64 _ _ (by omega) (by omega) (by omega) bx.1 bx.2
      have m0 := Int.emod_nonneg (r * 4294967296 + x) (show q ≠ 0 by omega)
      have m1 := Int.emod_lt_of_pos (r * 4294967296 + x) hq.1
      have S1 := Lib.hid s1
      have hE2 : Hid (∀ z, Ed w (wr.setCell ⟨g, o + i, none⟩ (.int .u32 z)) g cs o n (M.set i z)) := fun z => hE.out.set_ i hin z
      have i1 : (i : Int) < n := by omega
      obtain ⟨t, ht⟩ : ∃ t, r * 4294967296 + x = t := ⟨_, rfl⟩
      have t0 : 0 ≤ t := by omega
      have t1 : t < 18446744073709551616 := by omega
      rw [ht] at hor S1 m0 m1 z0 z1
      clear ex s1 ht
      simp only [ik]
      clear ik
      go_wp2
      exact ⟨⟨i, _, _, by simp, by omega, rfl, S1.out, hE2.out _⟩, by simp only [intOf]; omega⟩
    · obtain rfl : k = 0 := by omega
      have hD := Lib.hid hI.out.done
      go_wp2
      go_ret
      exact ⟨M, r, rfl, hE.out, hI.out.lim, r0, by omega, hD⟩
/-- bytes.trimRightByte: the same slice, maybe shorter -/
def RetTb (w : World) (A : Option Addr) (c : Nat) (L : List Int) (b : Int) (e : Ending) (w' : World) : Prop :=
  ∃ m, e = .returned (.slice A m c) ∧ m ≤ L.length ∧ Hid ((∀ d ∈ L.drop m, d = b) ∧ (m = 0 ∨ L.getD (m - 1) 0 ≠ b)) ∧ w = w'
theorem trimRightByte_c (A : Option Addr) (n c : Nat) (L : List Int) (b : Int) (w : World) (hs : Sl .u8 w (.slice A n c) L) (hn : L.length ≤ 1000000000) :
    Calls Tryd.prog 57 #[.slice A n c, .int .u8 b] w (RetTb w A c L b) := by
  obtain ⟨en, hc⟩ := hs.len_
  rw [← en] at hn hc
  have EN := Lib.hid en
  have HS := Lib.hid hs
  clear en hs
  go_enter Tryd.func57, Tryd.ntmps57
  go_wp2
  go_loop [0] (fun v => ∃ k : Nat, k ≤ n ∧ v = .slice A k c ∧ Hid (∀ d ∈ L.drop k, d = b)) (fun v => match v with | .slice _ k _ => k | _ => 0)
  case atStart => exact ⟨n, Nat.le_refl _, rfl, by intro d hd; rw [EN.out, List.drop_length] at hd; cases hd⟩
  case round =>
    obtain ⟨k, hk, rfl, htz⟩ := hrel
    by_cases hk0 : 0 < k
    · obtain ⟨ad, c', e, hc', hb, hcell⟩ := HS.out.at_ (k - 1) (by rw [← EN.out]; omega)
      injection e with e1 e2 e3
      subst e1
      clear e2 e3 hc' c' hb
      obtain ⟨z, hz⟩ : ∃ z, L.getD (k - 1) 0 = z := ⟨_, rfl⟩
      rw [hz] at hcell
      have HZ := Lib.hid hz
      clear hz
      by_cases h0 : z = b
      · have h1 : (z == b) = true := by simp [h0]
        have HT2 : Hid (∀ d ∈ L.drop (k - 1), d = b) := by
          intro d hd
          rw [List.drop_eq_getElem_cons (by rw [← EN.out]; omega)] at hd
          rcases List.mem_cons.1 hd with rfl | hd
          · have := HZ.out
            rw [List.getD_eq_getElem?_getD, List.getElem?_eq_getElem (by rw [← EN.out]; omega)] at this
            exact this.trans h0
          · rw [show k - 1 + 1 = k by omega] at hd; exact htz.out d hd
        clear h0
        go_wp2
        go_round
        case rel => exact ⟨k - 1, by omega, by simp, HT2.out⟩
        case measure => simp; omega
      · have h1 : (z == b) = false := by simp [h0]
        have HNZ := Lib.hid h0
        clear h0
        go_wp2
        go_ret
        exact ⟨k, rfl, by rw [← EN.out]; exact hk, ⟨htz.out, .inr (by rw [HZ.out]; exact HNZ.out)⟩, rfl⟩
    · obtain rfl : k = 0 := by omega
      go_wp2
      go_ret
      exact ⟨0, rfl, by omega, ⟨htz.out, .inl rfl⟩, rfl⟩
set_option maxRecDepth 100000 in
theorem TrimRight_c (A : Option Addr) (n c : Nat) (L : List Int) (w : World) (hs : Sl .u8 w (.slice A n c) L) (hn : L.length ≤ 1000000000) (h0 : L ≠ []) :
    Calls Tryd.prog 41 #[.slice A n c, .string ⟨#[48]⟩] w (RetTb w A c L 48) := by
  have T := Lib.hid (trimRightByte_c A n c L 48 w hs hn)
  obtain ⟨en, hc⟩ := hs.len_
  have hp := List.length_pos_iff.2 h0
  have e1 : ((n : Int) == 0) = false := by simp; omega
  have hn2 : n ≤ 1000000000 := by omega
  clear hs hn h0 en hc hp
  go_enter Tryd.func41, Tryd.ntmps41
  go_wp2_with (go_at_call 57; refine (T.out).mono ?_; rintro e w1 ⟨m, rfl, hm, hh, rfl⟩)
  go_ret
  exact ⟨m, rfl, hm, hh, rfl⟩
abbrev OwnB (w : World) (base : Nat) (v : Value) (X : List Int) : Prop := Own .u8 5 w base v X
section
variable {w : World} {base g n c : Nat} {X : List Int}
theorem OwnB.cell (h : OwnB w base (.slice (some ⟨g, 0, none⟩) n c) X) (j : Nat) (hj : j < X.length) : w.cell? ⟨g, j, none⟩ = some (.int .u8 (X.getD j 0)) := by
  have hn : n = X.length := (Own.sl h).len_.1
  subst hn
  have := World.ownsRow.cellAt h j (by omega)
  rw [this, List.getElem?_map, List.getD_eq_getElem?_getD, List.getElem?_eq_getElem hj]; rfl
theorem OwnB.frozen (h : OwnB w base (.slice (some ⟨g, 0, none⟩) n c) X) (j : Nat) : w.frozen? ⟨g, j, none⟩ = false := by
  have hn : n = X.length := (Own.sl h).len_.1
  subst hn
  exact World.ownsRow.frozenAt h j
theorem OwnB.set_ (h : OwnB w base (.slice (some ⟨g, 0, none⟩) n c) X) (j : Nat) (z : Int) : OwnB (w.setCell ⟨g, j, none⟩ (.int .u8 z)) base (.slice (some ⟨g, 0, none⟩) n c) (X.set j z) := by
  have hn : n = X.length := (Own.sl h).len_.1
  subst hn
  have := (World.ownsRow.stored h j (.int .u8 z)).1
  unfold OwnB Own
  rw [List.map_set, List.length_set]
  exact this
theorem OwnB.take {A : Option Addr} {n c m : Nat} (h : OwnB w base (.slice A n c) X) (hm : m ≤ n) (hA : A ≠ none) : OwnB w base (.slice A m c) (X.take m) := by
  have hn : n = X.length := (Own.sl h).len_.1
  have hl : (X.take m).length = m := by rw [List.length_take, ← hn]; exact Nat.min_eq_left hm
  unfold OwnB Own
  rw [hl]
  refine ⟨by rw [List.length_map, hl]; omega, ?_⟩
  rcases h.2 with ⟨e, _⟩ | ⟨g, cap, cur, e, hg, hgg, hc, hmx, hsz, htk⟩
  · injection e with e1; exact absurd e1 hA
  · injection e with e1 e2 e3
    subst e1 e3
    refine .inr ⟨g, _, cur, rfl, hg, hgg, by omega, hmx, hsz, ?_⟩
    rw [List.map_take, ← htk, List.take_take, Nat.mul_one, Nat.mul_one, Nat.min_eq_left (by omega)]
end
/-- turned round in place -/
def RetRv (w : World) (base g n c : Nat) (X : List Int) (e : Ending) (w' : World) : Prop := e = .returned (.tuple #[]) ∧ w.grownBy w' (some g) ∧ OwnB w' base (.slice (some ⟨g, 0, none⟩) n c) X.reverse
theorem Reverse_c (base g n c : Nat) (X : List Int) (w : World) (hO : OwnB w base (.slice (some ⟨g, 0, none⟩) n c) X) (hl : X.length ≤ 1000000000) :
    Calls Tryd.prog 42 #[.slice (some ⟨g, 0, none⟩) n c] w (RetRv w base g n c X) := by
  have hn : n = X.length := (Own.sl hO).len_.1
  have hc := (Own.sl hO).len_.2
  rw [← hn] at hl hc
  have HN := Lib.hid hn
  have HO := Lib.hid hO
  clear hn hO
  go_enter Tryd.func42, Tryd.ntmps42
  go_wp2
  go_loopw [2, 3] (fun iv jv wr => ∃ (i : Nat) (M : List Int), iv = .int .i64 i ∧ 2 * i ≤ n + 1 ∧ jv = .int .i64 ((n : Int) - 1 - i) ∧ Hid (RvI X i M) ∧ Hid (OwnB wr base (.slice (some ⟨g, 0, none⟩) n c) M) ∧ Hid (w.grownBy wr (some g))) (fun iv _ _ => n - (intOf iv).toNat)
  case atStart => exact ⟨0, X, rfl, by omega, by simp, RvI.start X, HO, World.grownBy.refl _ _⟩
  case round =>
    obtain ⟨i, M, rfl, hi, rfl, hI, hO, hG⟩ := hrel
    by_cases hin : 2 * i + 1 < n
    · obtain ⟨j, hj⟩ : ∃ j, n - 1 - i = j := ⟨_, rfl⟩
      have hjn : (n : Int) - 1 - i = j := by omega
      have hML := hI.out.len
      have ci := OwnB.cell hO.out i (by rw [hML, ← HN.out]; omega)
      have cj := OwnB.cell hO.out j (by rw [hML, ← HN.out]; omega)
      have fi := OwnB.frozen hO.out i
      have fj := OwnB.frozen hO.out j
      have hst := hI.out.step (by rw [← HN.out]; exact hin)
      rw [← HN.out, hj] at hst
      obtain ⟨x, hx⟩ : ∃ x, M.getD i 0 = x := ⟨_, rfl⟩
      obtain ⟨y, hy⟩ : ∃ y, M.getD j 0 = y := ⟨_, rfl⟩
      rw [hx, hy] at hst
      rw [hx] at ci
      rw [hy] at cj
      have hij : i ≠ j := by omega
      have hlt : (i : Int) < j := by omega
      have i1 : (i : Int) < n := by omega
      have j1 : (j : Int) < n := by omega
      have HST := Lib.hid hst
      have HW : Hid (OwnB ((wr.setCell ⟨g, i, none⟩ (.int .u8 y)).setCell ⟨g, j, none⟩ (.int .u8 x)) base (.slice (some ⟨g, 0, none⟩) n c) ((M.set i y).set j x)) := OwnB.set_ (OwnB.set_ hO.out i y) j x
      have HG : Hid (w.grownBy ((wr.setCell ⟨g, i, none⟩ (.int .u8 y)).setCell ⟨g, j, none⟩ (.int .u8 x)) (some g)) := grownBy_set (grownBy_set hG.out i _) j _
      have hj2 : (j : Int) - 1 = (n : Int) - 1 - ((i : Int) + 1) := by omega
      have HJ := Lib.hid hj2
      clear hML hst hx hy hj hj2
      simp only [hjn]
      clear hjn
      go_wp2
      go_region
      go_wp2
      exact ⟨⟨i + 1, _, by simp, by omega, congrArg (Value.int .i64) (by have := HJ.out; omega), HST.out, Own.drew HW.out, ⟨HG.out.os, HG.out.tape, HG.out.output, HG.out.size, HG.out.block⟩⟩, by simp only [intOf]; omega⟩
    · have hD := hI.out.done (by rw [← HN.out]; omega)
      have hlt : ¬ (i : Int) < (n : Int) - 1 - i := by omega
      subst hD
      go_wp2
      go_end0
      exact ⟨rfl, hG.out, hO.out⟩
end NC
end Go.Proofs.YtjihapnplfdmmaaDoor
