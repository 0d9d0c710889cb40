/-
  Texts glued together for a claim: VK1.
-/
import Derived.Test.YtcendlgbcnpfcaaDoorY13
import Derived.Test.YtcendlgbcnpfcaaDoorY8
/-
  SumAll: the walk.
-/
namespace Go.Proofs.YtcendlgbcnpfcaaDoor
set_option linter.unusedVariables false
set_option linter.unusedSimpArgs false
open Go.RowKit
set_option linter.unusedVariables false
set_option linter.unusedSimpArgs false
namespace VC
open Z (Nz Tz cmpv big)
open ZC DC RC QC SC
theorem row_q {w : World} {a : Option Addr} {n c : Nat} {zs : List Int}
    (h : (a = none ∧ n = 0 ∧ c = 0 ∧ zs = []) ∨ ∃ x, a = some x ∧ n ≤ c ∧ c ≤ maxLen ∧ zs.length = c ∧ (∀ i, i < zs.length → w.cell? (x.add i) = some (.int .u64 (zs.getD i 0))) ∧ ∀ n ∈ zs, (Lit.int .u64 n).wf = true) :
    Sl .u64 w (.slice a n c) (zs.take n) ∧ u64s (zs.take n) ∧ (zs.take n).length = n ∧ ((a = none ∧ n = 0 ∧ c = 0) ∨ ∃ ad, a = some ad) := by
  rcases h with ⟨rfl, rfl, rfl, rfl⟩ | ⟨x, rfl, hn, hc, hz, hcell, hwf⟩
  · exact ⟨Sl.nil _ _ _ _, (by intro x hx; simp at hx), by simp, .inl ⟨rfl, rfl, rfl⟩⟩
  · have hl : (zs.take n).length = n := by rw [List.length_take, hz]; exact Nat.min_eq_left hn
    refine ⟨⟨some x, c, by rw [hl], by rw [hl]; exact hn, ?_⟩, fun d hd => wfb_u64 (hwf d (List.mem_of_mem_take hd)), hl, .inr ⟨x, rfl⟩⟩
    by_cases h0 : n = 0
    · left; subst h0; simp
    · right
      refine ⟨x, rfl, ?_, fun j hj => ?_⟩
      · have := World.block_lt_of_cell? w _ (hcell 0 (by omega))
        rwa [block_of_add] at this
      · rw [hl] at hj
        rw [hcell j (by omega), List.getElem_take, List.getD_eq_getElem?_getD, List.getElem?_eq_getElem (by omega)]; rfl
theorem clo3_c (A : Option Addr) (n c : Nat) (L : List Int) (mode : Int) (g h : Nat) (w : World) (hs : Sl .u64 w (.slice A n c) L) (hu : u64s L) (hl : L.length ≤ 200) (hm : 0 ≤ mode ∧ mode ≤ 4)
    (c0 : w.cell? ⟨g, 0, none⟩ = some (.slice A n c)) (c1 : w.cell? ⟨h, 0, none⟩ = some (.int .i64 mode)) :
    Calls Tryd.prog 54 #[.pointer (some ⟨g, 0, none⟩), .pointer (some ⟨h, 0, none⟩)] w fun e w' => e = .returned (.tuple #[.int .u64 (SO L mode).1, .bool (SO L mode).2]) ∧ Below w.heap.size w w' := by
  have SC1 := Lib.hid (SumOf_c A n c L mode w hs hu hl hm)
  obtain ⟨t, ht⟩ : ∃ t, SO L mode = t := ⟨_, rfl⟩
  rw [ht] at SC1 ⊢
  obtain ⟨y, l⟩ := t
  dsimp only at SC1 ⊢
  clear ht hs hu hl hm
  go_enter Tryd.func54, Tryd.ntmps54
  go_wp2_with (go_at_call 51; (with_reducible refine (SC1.out).mono ?_); rintro e w1 ⟨rfl, hb⟩; have hb := Lib.hid hb)
  go_ret2
  exact ⟨rfl, hb.out⟩
theorem told_bad (mode : Int) (F : Value) (w : World) (hm : mode < 0 ∨ 4 < mode) : Calls Tryd.prog 49 #[.int .u64 0, .bool false, .int .i64 1, .int .i64 mode, F] w fun e w' => e = .returned (.bool true) ∧ w = w' := by
  have BT := Lib.hid (FloatR.Between_f mode 0 4 hm w)
  clear hm
  go_enter Tryd.func49, Tryd.ntmps49
  go_wp2_with (go_at_call 25; (with_reducible refine (BT.out).mono ?_); rintro e w1 ⟨rfl, rfl⟩)
  go_ret
  exact ⟨rfl, rfl⟩
theorem told3_c (x mode : Int) (l : Bool) (g h : Nat) (w : World) (hm : 0 ≤ mode ∧ mode ≤ 4)
    (CL : Calls Tryd.prog 54 #[.pointer (some ⟨g, 0, none⟩), .pointer (some ⟨h, 0, none⟩)] w fun e w' => e = .returned (.tuple #[.int .u64 x, .bool l]) ∧ Below w.heap.size w w') :
    Calls Tryd.prog 49 #[.int .u64 x, .bool l, .int .i64 0, .int .i64 mode, .func (.func 54) #[] #[.pointer (some ⟨g, 0, none⟩), .pointer (some ⟨h, 0, none⟩)]] w fun e w' => e = .returned (.bool true) ∧ Below w.heap.size w w' := by
  have BT := Lib.hid (FloatR.Between_t mode 0 4 hm.1 hm.2 w)
  have CL := Lib.hid CL
  have tx : (x == x) = true := by simp
  have tl : (l == l) = true := by simp
  clear hm
  go_enter Tryd.func49, Tryd.ntmps49
  go_wp2_with (first
    | (go_at_call 25; (with_reducible refine (BT.out).mono ?_); rintro e w1 ⟨rfl, rfl⟩)
    | (go_at_call 54; (with_reducible refine (CL.out).mono ?_); rintro e w2 ⟨rfl, hb⟩; have hb := Lib.hid hb))
  go_ret
  exact ⟨rfl, hb.out⟩
set_option maxRecDepth 100000 in
theorem all_c (A : Option Addr) (n c : Nat) (L : List Int) (mode : Int) (w : World) (hs : Sl .u64 w (.slice A n c) L) (hu : u64s L) (hl : L.length ≤ 9223372036854775807) (hT : NC.TabD w) :
    Calls Tryd.prog 8 #[.slice A n c, .int .i64 mode] w fun e w' => e = .returned (.bool true) ∧ Below w.heap.size w w' := by
  have hn := hs.len_.1
  obtain ⟨N1, N2, NS, D0⟩ := new2 w 75 3 #[.slice A n c] #[.int .i64 mode] 0
  rw [World.drewN_zero] at N1 N2 NS D0
  obtain ⟨W0, hW0⟩ : ∃ W0, (w.alloc (.cells #[.slice A n c] 75)).alloc (.cells #[.int .i64 mode] 3) = W0 := ⟨_, rfl⟩
  rw [hW0] at N1 N2 NS D0
  have KB : Hid (∀ W, Below W0.heap.size W0 W → W.cell? ⟨w.heap.size, 0, none⟩ = some (.slice A n c) ∧ W.cell? ⟨w.heap.size + 1, 0, none⟩ = some (.int .i64 mode)) := fun W h => ⟨(N1.below h N1.lt).at_ 0 rfl, (N2.below h N2.lt).at_ 0 rfl⟩
  have AL := All_c A n c L mode W0 (hs.below D0) hu hl (hT.below D0)
  have HW0 := Lib.hid hW0
  have HS : Hid (∀ W, Below W0.heap.size W0 W → Sl .u64 W (.slice A n c) L) := fun W hW => (hs.below D0).below hW
  have D0 := Lib.hid D0
  unfold ATv at AL
  by_cases hm : 0 ≤ mode ∧ mode ≤ 4
  · have BT : Hid (∀ W : World, Calls Tryd.prog 25 #[.int .i64 mode, .int .i64 0, .int .i64 4] W fun e w' => e = .returned (.bool true) ∧ W = w') := fun W => FloatR.Between_t mode 0 4 hm.1 hm.2 W
    by_cases h2 : 200 < L.length
    · rw [AT_large hm h2] at AL
      have AL := Lib.hid AL
      have h3 : (n : Int) > 200 := by omega
      rw [← hn] at hl
      clear hs hu hT hW0 N1 N2 NS h2 hn hm
      go_enter Tryd.func8, Tryd.ntmps8
      go_wp2_with (first
        | (go_at_call 53; rw [HW0.out]; (with_reducible refine (AL.out).mono ?_); rintro e w1 ⟨rfl, hb⟩; have D := Lib.hid hb; clear hb; obtain ⟨k0, k1⟩ := KB.out _ D.out)
        | (go_at_call 25; (with_reducible refine (BT.out _).mono ?_); rintro e w2 ⟨rfl, rfl⟩))
      go_ret
      exact ⟨rfl, D0.out.trans (D.out.mono D0.out.size)⟩
    · rw [SO_AT hm h2 hu] at AL
      have h3 : ¬ (n : Int) > 200 := by omega
      have TO : Hid (∀ W, Below W0.heap.size W0 W → Calls Tryd.prog 49 #[.int .u64 (SO L mode).1, .bool (SO L mode).2, .int .i64 0, .int .i64 mode, .func (.func 54) #[] #[.pointer (some ⟨w.heap.size, 0, none⟩), .pointer (some ⟨w.heap.size + 1, 0, none⟩)]] W fun e w' => e = .returned (.bool true) ∧ Below W.heap.size W w') := fun W hW =>
        told3_c _ mode _ _ _ W hm (clo3_c A n c L mode _ _ W (HS.out W hW) hu (by omega) hm (KB.out W hW).1 (KB.out W hW).2)
      generalize SO L mode = t at *
      obtain ⟨y, l⟩ := t
      dsimp only at AL TO
      have AL := Lib.hid AL
      rw [← hn] at hl
      clear hs hu hT hW0 N1 N2 NS h2 hn hm
      go_enter Tryd.func8, Tryd.ntmps8
      go_wp2_with (first
        | (go_at_call 53; rw [HW0.out]; (with_reducible refine (AL.out).mono ?_); rintro e w1 ⟨rfl, hb⟩; have D := Lib.hid hb; clear hb; obtain ⟨k0, k1⟩ := KB.out _ D.out)
        | (go_at_call 25; (with_reducible refine (BT.out _).mono ?_); rintro e w2 ⟨rfl, rfl⟩)
        | (go_at_call 49; (with_reducible refine (TO.out _ D.out).mono ?_); rintro e w3 ⟨rfl, hb⟩; have D := Lib.hid (D.out.trans (hb.mono D.out.size)); clear hb))
      go_ret
      exact ⟨rfl, D0.out.trans (D.out.mono D0.out.size)⟩
  · have hm2 : mode < 0 ∨ 4 < mode := by omega
    have BT : Hid (∀ W : World, Calls Tryd.prog 25 #[.int .i64 mode, .int .i64 0, .int .i64 4] W fun e w' => e = .returned (.bool false) ∧ W = w') := fun W => FloatR.Between_f mode 0 4 hm2 W
    have TO : Hid (∀ (W : World) (F : Value), Calls Tryd.prog 49 #[.int .u64 0, .bool false, .int .i64 1, .int .i64 mode, F] W fun e w' => e = .returned (.bool true) ∧ W = w') := fun W F => told_bad mode F W hm2
    rw [AT_no hm] at AL
    have AL := Lib.hid AL
    clear hs hu hT hW0 N1 N2 NS hn hm hm2 hl
    go_enter Tryd.func8, Tryd.ntmps8
    go_wp2_with (first
      | (go_at_call 53; rw [HW0.out]; (with_reducible refine (AL.out).mono ?_); rintro e w1 ⟨rfl, hb⟩; have D := Lib.hid hb; clear hb; obtain ⟨k0, k1⟩ := KB.out _ D.out)
      | (go_at_call 25; (with_reducible refine (BT.out _).mono ?_); rintro e w2 ⟨rfl, rfl⟩)
      | (go_at_call 49; (with_reducible refine (TO.out _ _).mono ?_); rintro e w3 ⟨rfl, rfl⟩))
    go_ret
    exact ⟨rfl, D0.out.trans (D.out.mono D0.out.size)⟩
end VC
end Go.Proofs.YtcendlgbcnpfcaaDoor

