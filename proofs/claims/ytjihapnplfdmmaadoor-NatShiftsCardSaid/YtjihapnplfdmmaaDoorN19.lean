/-
  ulpkeep.natLives.
-/
import Derived.Test.YtjihapnplfdmmaaDoorN18
namespace Go.Proofs.YtjihapnplfdmmaaDoor
open Go.RowKit
set_option linter.unusedVariables false
namespace NC
open L
open Z (Nz Tz cmpv)
def decF : Nat → Nat → List UInt8
  | 0, _ => []
  | f + 1, n => if n < 10 then [dg n] else decF f (n / 10) ++ [dg n]
theorem dec_eq : ∀ (f n : Nat), n < 10 ^ (f + 1) → dec n = decF (f + 1) n := by
  intro f
  induction f with
  | zero => intro n h; rw [dec_small (by omega), decF, if_pos (by omega)]
  | succ f ih =>
    intro n h
    by_cases h0 : n < 10
    · rw [dec_small h0, decF, if_pos h0]
    · rw [dec_more h0, decF, if_neg h0, ih _ (by rw [Nat.pow_succ] at h; omega)]
theorem ok_lit (w : World) (zs : List Int) (hn : zs.length ≤ 1000) :
    Calls Tryd.prog 27 #[.slice (some ⟨w.heap.size, 0, none⟩) zs.length zs.length] (w.alloc (.cells (zs.map (Value.int .i64)).toArray 23)) fun e w' => e = .returned (.bool (zs.all (· == 0))) ∧ w.alloc (.cells (zs.map (Value.int .i64)).toArray 23) = w' := by
  refine OkC.ok_c zs w.heap.size 0 zs.length _ hn fun i hi => ?_
  have hb := Blk.new w 23 (zs.map (Value.int .i64)).toArray
  rw [Nat.zero_add]
  refine hb.at_ i ?_
  rw [List.getElem?_toArray, List.getElem?_map, List.getD_eq_getElem?_getD, List.getElem?_eq_getElem hi]; rfl
theorem lives_text : bs (dec 6338253001141147007483516026880) = ⟨#[54, 51, 51, 56, 50, 53, 51, 48, 48, 49, 49, 52, 49, 49, 52, 55, 48, 48, 55, 52, 56, 51, 53, 49, 54, 48, 50, 54, 56, 56, 48]⟩ := by
  rw [dec_eq 30 _ (by decide)]
  decide +kernel
theorem small_400 {z : Int} (h : z < 4294967296 ^ 5) : z < 4294967296 ^ 400 := Int.lt_of_lt_of_le h (pow_mono (by decide))
theorem small_big {z : Int} (h : z < 4294967296 ^ 5) : z < big3 := Int.lt_of_lt_of_le h (pow_mono (by decide))
theorem erz0 {z : Int} (h : z < 4294967296 ^ 5) : erz z = 0 := by unfold erz; rw [if_pos (small_400 h)]
set_option maxRecDepth 100000 in
set_option maxHeartbeats 4000000 in
theorem lives_c (w : World) : Calls Tryd.prog 25 #[] w fun e w' => e = .returned (.bool true) ∧ Below w.heap.size w w' := by
  have SH : Hid (∀ W : World, Calls Tryd.prog 9 #[.slice (some ⟨W.heap.size, 0, none⟩) 1 1, .int .i64 100] (W.alloc (.cells #[.int .u32 5] 50)) (RetSh (W.alloc (.cells #[.int .u32 5] 50)) 0 6338253001141147007483516026880 false)) := fun W => by
    have h := ShiftUp_c (.slice (some ⟨W.heap.size, 0, none⟩) 1 1) [5] 100 (W.alloc (.cells #[.int .u32 5] 50)) (Row.sl (L := [5]) (Blk.new W 50 #[.int .u32 5]) 1 (by simp)) (by intro d hd; simp at hd; omega) (by decide) (by omega)
    rw [show lv [5] * 2 ^ 100 = 6338253001141147007483516026880 by simp [lv]] at h
    exact h
  have DV : Hid (∀ (W : World) (v : Value), PV W v 0 6338253001141147007483516026880 → Calls Tryd.prog 29 #[v, .slice (some ⟨W.heap.size, 0, none⟩) 3 3] (W.alloc (.cells #[.int .u32 0, .int .u32 0, .int .u32 7] 50)) (RetDP (W.alloc (.cells #[.int .u32 0, .int .u32 0, .int .u32 7] 50)) 0 49085340525 92233720368547758080)) := fun W v hv => by
    have h2 : PV (W.alloc (.cells #[.int .u32 0, .int .u32 0, .int .u32 7] 50)) (.slice (some ⟨W.heap.size, 0, none⟩) 3 3) 0 129127208515966861312 :=
      ⟨[0, 0, 7], Row.sl (L := [0, 0, 7]) (Blk.new W 50 #[.int .u32 0, .int .u32 0, .int .u32 7]) 3 (by simp), by intro d hd; simp at hd; omega, by simp, by decide, by simp [lv]⟩
    have h := Div_p (PV.below hv ((Below.refl _ _).alloc (Nat.le_refl _) (.cells #[.int .u32 0, .int .u32 0, .int .u32 7] 50))) h2
    have e : ed 0 0 129127208515966861312 = 0 := by decide
    rw [e, if_pos rfl, if_pos rfl] at h
    exact h
  have RT : Hid (∀ W : World, Calls Tryd.prog 10 #[.slice (some ⟨W.heap.size, 0, none⟩) 1 1] (W.alloc (.cells #[.int .u32 99] 50)) (RetRP (W.alloc (.cells #[.int .u32 99] 50)) 0 99)) := fun W => by
    have h2 : PV (W.alloc (.cells #[.int .u32 99] 50)) (.slice (some ⟨W.heap.size, 0, none⟩) 1 1) 0 99 :=
      ⟨[99], Row.sl (L := [99]) (Blk.new W 50 #[.int .u32 99]) 1 (by simp), by intro d hd; simp at hd; omega, by simp, by decide, by simp [lv]⟩
    exact Root_p h2
  have TX : Hid (∀ (W : World) (v : Value), PV W v 0 6338253001141147007483516026880 → Calls Tryd.prog 11 #[v] W (RetTx W 0 ⟨#[54, 51, 51, 56, 50, 53, 51, 48, 48, 49, 49, 52, 49, 49, 52, 55, 48, 48, 55, 52, 56, 51, 53, 49, 54, 48, 50, 54, 56, 56, 48]⟩)) := fun W v hv => by
    have h := Text_p hv
    rw [show (6338253001141147007483516026880 : Int).toNat = 6338253001141147007483516026880 from rfl, lives_text] at h
    exact h
  have EQ1 : Hid (∀ (W : World) (v : Value), NV W v 49085340525 → Calls Tryd.prog 26 #[v, .slice (some ⟨W.heap.size, 0, none⟩) 2 2] (W.alloc (.cells #[.int .u32 1840700269, .int .u32 11] 50)) (RetQ (W.alloc (.cells #[.int .u32 1840700269, .int .u32 11] 50)) (.bool true))) := fun W v hv => by
    have h2 : NV (W.alloc (.cells #[.int .u32 1840700269, .int .u32 11] 50)) (.slice (some ⟨W.heap.size, 0, none⟩) 2 2) 49085340525 :=
      ⟨[1840700269, 11], Row.sl (L := [1840700269, 11]) (Blk.new W 50 #[.int .u32 1840700269, .int .u32 11]) 2 (by simp), by intro d hd; simp at hd; omega, by intro h; simp, by simp [lv]⟩
    have h := Equal_p (hv.below ((Below.refl _ _).alloc (Nat.le_refl _) (.cells #[.int .u32 1840700269, .int .u32 11] 50))) h2 (small_big (by decide)) (small_big (by decide))
    exact h
  have EQ2 : Hid (∀ (W : World) (v : Value) (R : Int), R = 9 → NV W v R → Calls Tryd.prog 26 #[v, .slice (some ⟨W.heap.size, 0, none⟩) 1 1] (W.alloc (.cells #[.int .u32 9] 50)) (RetQ (W.alloc (.cells #[.int .u32 9] 50)) (.bool true))) := fun W v R hR hv => by
    subst hR
    have h2 : NV (W.alloc (.cells #[.int .u32 9] 50)) (.slice (some ⟨W.heap.size, 0, none⟩) 1 1) 9 :=
      ⟨[9], Row.sl (L := [9]) (Blk.new W 50 #[.int .u32 9]) 1 (by simp), by intro d hd; simp at hd; omega, by intro h; simp, by simp [lv]⟩
    have h := Equal_p (hv.below ((Below.refl _ _).alloc (Nat.le_refl _) (.cells #[.int .u32 9] 50))) h2 (small_big (by decide)) (small_big (by decide))
    exact h
  have OK : Hid (∀ W : World, Calls Tryd.prog 27 #[.slice (some ⟨W.heap.size, 0, none⟩) 4 4] (W.alloc (.cells #[.int .i64 0, .int .i64 0, .int .i64 0, .int .i64 0] 23)) fun e w' => e = .returned (.bool true) ∧ W.alloc (.cells #[.int .i64 0, .int .i64 0, .int .i64 0, .int .i64 0] 23) = w') := fun W => ok_lit W [0, 0, 0, 0] (by simp)
  have LEN : Hid (∀ (W : World) A n c, NV W (.slice A n c) 92233720368547758080 → n = 3) := fun W A n c h => by
    obtain ⟨L, h1, h2, h3, h4⟩ := h
    rw [h1.len_.1]
    exact len_eq (n := 2) h2 h3 (by rw [h4]; decide) (by rw [h4]; decide)
  have R9 : Hid (∀ R : Int, R * R ≤ 99 → 99 < (R + 1) * (R + 1) → 0 ≤ R → R = 9) := fun R h1 h2 h3 => by
    have a1 : R ≤ 9 := by
      rcases Int.lt_or_le 9 R with h | h
      · have := Int.mul_le_mul (show 10 ≤ R by omega) (show 10 ≤ R by omega) (by decide) h3
        omega
      · exact h
    have a2 : 9 ≤ R := by
      rcases Int.lt_or_le R 9 with h | h
      · have := Int.mul_le_mul (show R + 1 ≤ 9 by omega) (show R + 1 ≤ 9 by omega) (by omega) (by decide)
        omega
      · exact h
    omega
  go_enter Tryd.func25, Tryd.ntmps25
  go_wp2_with (first
    | (go_at_call 9; (with_reducible refine (SH.out _).mono ?_); rintro e w1 ⟨A1, n1, c1, rfl, hv1, hb1⟩; have B1 : Below w.heap.size w w1 := ((Below.refl _ _).alloc (Nat.le_refl _) _).trans (hb1.mono (by simp)); have P1 := hv1.pv (small_big (by decide)); rw [erz0 (by decide)] at P1)
    | (go_at_call 29; (with_reducible refine (DV.out _ _ P1).mono ?_); rintro e w2 ⟨A2, n2, c2, A3, n3, c3, rfl, hp2, hp3, hv2, hv3, hb2⟩; have b2 : Below w1.heap.size w1 w2 := ((Below.refl _ _).alloc (Nat.le_refl _) _).trans (hb2.mono (by simp)); have B2 := B1.trans (b2.mono B1.size); have P2 := P1.below b2; have hn3 := LEN.out _ _ _ _ hv3; subst hn3)
    | (go_at_call 10; (with_reducible refine (RT.out _).mono ?_); rintro e w3 ⟨A4, n4, c4, b4, R, rfl, hv4, hb3, hr1, hr2⟩; have b3 : Below w2.heap.size w2 w3 := ((Below.refl _ _).alloc (Nat.le_refl _) _).trans (hb3.mono (by simp)); have B3 := B2.trans (b3.mono B2.size); have P3 := P2.below b3; have hR := Lib.hid (R9.out R (hr1.out rfl).1 (hr1.out rfl).2.1 (hr1.out rfl).2.2.1); have hb4 : b4 = true := (by rw [(hr1.out rfl).2.2.2, hR.out]; decide); subst hb4; have V2 := hv2.below b3)
    | (go_at_call 11; (with_reducible refine (TX.out _ _ P3).mono ?_); rintro e w4 ⟨rfl, hb4⟩; have B4 := B3.trans (hb4.mono B3.size); have V3 := V2.below hb4; have V4 := hv4.below hb4)
    | (go_at_call 27; (with_reducible refine (OK.out _).mono ?_); rintro e w5 ⟨rfl, hw5⟩; have b5 : Below w4.heap.size w4 w5 := (by rw [← hw5]; exact (Below.refl _ _).alloc (Nat.le_refl _) _); clear hw5; have B5 := B4.trans (b5.mono B4.size); have V5 := V3.below b5; have V6 := V4.below b5)
    | (go_at_call 26; (with_reducible refine (EQ1.out _ _ V5).mono ?_); rintro e w6 ⟨rfl, k6, hw6⟩; have b6 : Below w5.heap.size w5 w6 := (by rw [hw6]; have := (Below.refl w5.heap.size w5).alloc (Nat.le_refl _) (.cells #[.int .u32 1840700269, .int .u32 11] 50); exact ⟨this.os, this.tape, this.output, this.size, this.block⟩); clear hw6; have B6 := B5.trans (b6.mono B5.size); have V7 := V6.below b6)
    | (go_at_call 26; (with_reducible refine (EQ2.out _ _ _ hR.out V7).mono ?_); rintro e w7 ⟨rfl, k7, hw7⟩; have b7 : Below w6.heap.size w6 w7 := (by rw [hw7]; have := (Below.refl w6.heap.size w6).alloc (Nat.le_refl _) (.cells #[.int .u32 9] 50); exact ⟨this.os, this.tape, this.output, this.size, this.block⟩); clear hw7; have B7 := B6.trans (b7.mono B6.size)))
  go_ret
  exact ⟨rfl, B7⟩
end NC
end Go.Proofs.YtjihapnplfdmmaaDoor
