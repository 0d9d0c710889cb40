/-
  Package nat: push: a slice of the call's own, written in place and appended to.
-/
import Derived.Test.YtjihapnplfdmmaaDoorN10
import Derived.Test.YtjihapnplfdmmaaDoorNRootP
namespace Go.Proofs.YtjihapnplfdmmaaDoor
open Go.RowKit
set_option linter.unusedVariables false
namespace NC
open L
open Z (Nz Tz cmpv)
abbrev OwnU (w : World) (base : Nat) (v : Value) (X : List Int) : Prop := Own .u32 50 w base v X
section
variable {w : World} {base g n c : Nat} {X : List Int}
theorem OwnU.cell (h : OwnU w base (.slice (some ⟨g, 0, none⟩) n c) X) (j : Nat) (hj : j < X.length) : w.cell? ⟨g, j, none⟩ = some (.int .u32 (X.getD j 0)) := by
  have hn : n = X.length := (Own.sl h).len_.1
  subst hn
  have := World.ownsRow.cellAt h j (by omega)
  rw [this, List.getElem?_map, List.getD_eq_getElem?_getD, List.getElem?_eq_getElem hj]; rfl
theorem OwnU.frozen (h : OwnU w base (.slice (some ⟨g, 0, none⟩) n c) X) (j : Nat) : w.frozen? ⟨g, j, none⟩ = false := by
  have hn : n = X.length := (Own.sl h).len_.1
  subst hn
  exact World.ownsRow.frozenAt h j
theorem OwnU.set_ (h : OwnU w base (.slice (some ⟨g, 0, none⟩) n c) X) (j : Nat) (z : Int) : OwnU (w.setCell ⟨g, j, none⟩ (.int .u32 z)) base (.slice (some ⟨g, 0, none⟩) n c) (X.set j z) := by
  have hn : n = X.length := (Own.sl h).len_.1
  subst hn
  have := (World.ownsRow.stored h j (.int .u32 z)).1
  unfold OwnU Own
  rw [List.map_set, List.length_set]
  exact this
theorem OwnU.form {v : Value} (h : OwnU w base v X) : (v = .slice none 0 0 ∧ X = []) ∨ ∃ g c, v = .slice (some ⟨g, 0, none⟩) X.length c ∧ base ≤ g ∧ g < w.heap.size ∧ X.length ≤ c := by
  rcases h.2 with ⟨rfl, h0⟩ | ⟨g, cap, cur, rfl, hg, hgg, hc, _⟩
  · exact .inl ⟨rfl, List.eq_nil_of_length_eq_zero h0⟩
  · exact .inr ⟨g, cap, rfl, hg, (Array.getElem?_eq_some_iff.1 hgg).1, hc⟩
end
/-- one limb appended, anywhere the walk stands at the call -/
def RetPu (w : World) (base : Nat) (v : Value) (z : Int) (e : Ending) (w' : World) : Prop :=
  ∃ A n c X, e = .returned (.slice A n c) ∧ Hid (OwnU w' base (.slice A n c) X ∧ Lim X ∧ Nz X ∧ lv X = z) ∧ w.grownBy w' v.ownBlock ∧ ((Value.slice A n c).ownBlock = v.ownBlock ∨ ∃ g, (Value.slice A n c).ownBlock = some g ∧ w.heap.size ≤ g)
set_option maxRecDepth 100000 in
theorem push_c (base : Nat) (v : Value) (X : List Int) (r : Nat) (low : Int) (w : World) (hv : OwnU w base v X) (hX : Lim X) (nX : Nz X) (hr : r ≤ 31) (h0 : 0 ≤ low) (h1 : low < 2 ^ r) (hl : X.length ≤ 1000000) (hb : base ≤ w.heap.size) :
    Calls Tryd.prog 56 #[v, .int .i64 r, .int .u32 low] w (RetPu w base v (lv X * 2 ^ r + low)) := by
  have hr2 : (2 : Int) ^ r ≤ 2147483648 := by
    have : (2 : Int) ^ r ≤ 2 ^ 31 := by exact_mod_cast Nat.pow_le_pow_right (by decide : 0 < 2) hr
    exact this
  have hp := two_pos r
  have I0 := Lib.hid (PuI.start hX h0 h1)
  have HDONE0 := Lib.hid (fun (M : List Int) (h : PuI X r low X.length M 0) => h.done0 hX nX h0)
  have HDONE1 := Lib.hid (fun (M : List Int) (c : Int) (h : PuI X r low X.length M c) (hc : 0 < c) => h.done1 hc)
  obtain ⟨zz, hzz⟩ : ∃ zz, lv X * 2 ^ r + low = zz := ⟨_, rfl⟩
  rw [hzz] at HDONE0 HDONE1 ⊢
  obtain ⟨A, c, rfl⟩ := Own.form hv
  obtain ⟨n, hn⟩ : ∃ n, X.length = n := ⟨_, rfl⟩
  have HV := Lib.hid hv
  have HX := Lib.hid hX
  have hc : n ≤ c := by rw [← hn]; exact (Own.sl hv).len_.2
  rw [hn] at hl HV HDONE0 HDONE1 ⊢
  have HN := Lib.hid hn
  obtain ⟨ob, hob⟩ : ∃ ob, (Value.slice A n c).ownBlock = ob := ⟨_, rfl⟩
  clear hv hX nX hn hzz
  go_enter Tryd.func56, Tryd.ntmps56
  go_wp2
  go_loopw [12, 2] (fun iv cv wr => ∃ (i : Nat) (M : List Int) (k : Int), iv = .int .i64 i ∧ i ≤ n ∧ cv = .int .u32 k ∧ Hid (PuI X r low i M k) ∧ Hid (OwnU wr base (.slice A n c) M) ∧ Hid (w.grownBy wr (Value.slice A n c).ownBlock)) (fun iv _ _ => n - (intOf iv).toNat)
  case atStart => exact ⟨0, X, low, rfl, by omega, rfl, I0, HV, World.grownBy.refl _ _⟩
  case round =>
    obtain ⟨i, M, k, rfl, hi, rfl, hI, hO, hG⟩ := hrel
    have ik := hI.out.c0
    have ik1 := hI.out.c1
    by_cases hin : i < n
    · have hML := hI.out.len
      rcases OwnU.form hO.out with ⟨e, _⟩ | ⟨g, c', e, hg, hgs, hc'⟩
      · injection e with _ e; omega
      · injection e with e1 e2 e3
        subst e1
        clear e2 e3 hc'
        have hxc := OwnU.cell hO.out i (by rw [hML, HN.out]; exact hin)
        have fx := OwnU.frozen hO.out i
        have bq := HX.out.at_ i
        rw [hI.out.rest i (Nat.le_refl _)] at hxc
        obtain ⟨q, hq⟩ : ∃ q, X.getD i 0 = q := ⟨_, rfl⟩
        rw [hq] at hxc bq
        have HST := Lib.hid (hI.out.step (by rw [HN.out]; exact hin) hq bq.1 bq.2)
        have t0 : 0 ≤ q * 2 ^ r := Int.mul_nonneg bq.1 (by omega)
        have t1 : q * 2 ^ r ≤ 4294967295 * 2147483648 := Int.mul_le_mul (by omega) hr2 (by omega) (by omega)
        have hwr : IntKind.u64.wrap (q * 2 ^ r) = q * 2 ^ r := Go.u64_wrap_id _ t0 (by omega)
        have hor : bits .or .u64 (q * 2 ^ r) k = q * 2 ^ r + k := bits_join .u64 64 (by decide) (fun n h0 h1 => by rw [IntKind.wrap_u64]; omega) r (q * 2 ^ r) k t0 (Int.mul_emod_left _ _) (by simpa using (show q * 2 ^ r < 18446744073709551616 by omega)) ik ik1 (by have := ik1; simp; omega)
        have hG2 : Hid (∀ u, w.grownBy (wr.setCell ⟨g, i, none⟩ u) (some g)) := fun u => grownBy_set hG.out i u
        clear hML hq hob
        go_wp2
        exact ⟨⟨i + 1, _, _, by simp, by omega, rfl, HST.out, OwnU.set_ hO.out i _, hG2.out _⟩, by simp only [intOf]; omega⟩
    · obtain rfl : n = i := by omega
      have hsz := hG.out.size
      rcases Int.lt_or_eq_of_le ik with hl0 | hl0
      · have e1 : decide (0 < k) = true := by simp [hl0]
        have D := Lib.hid (HDONE1.out M k hI.out hl0)
        have hlm : M.length ≤ 1000000 := by rw [hI.out.len, HN.out]; exact hl
        have HLM := Lib.hid hlm
        clear HDONE0 HDONE1 hlm
        go_wp2_with (first | (at_builtin; refine app1 el_u32 rfl _ _ rfl rfl hO.out k rfl (by have := HLM.out; omega) (by omega) ?_; intro A2 k2 c2 w2 hk2 hown2 hg2 hat2))
        go_ret
        refine ⟨_, _, _, _, rfl, ⟨hown2, ?_, D.out.2, D.out.1⟩, ?_, ?_⟩
        · exact hI.out.lim.app (by intro d hd; simp at hd; omega)
        · exact ⟨hg2.os.trans hG.out.os, hg2.tape.trans hG.out.tape, hg2.output.trans hG.out.output, Nat.le_trans hsz hg2.size, fun j hj hne => (hg2.block j (Nat.lt_of_lt_of_le hj hsz) hne).trans (hG.out.block j hj hne)⟩
        · rcases hat2 with h | h
          · exact .inl h
          · exact .inr ⟨_, h, by omega⟩
      · have D := Lib.hid (HDONE0.out M (by rw [hl0]; exact hI.out))
        subst hl0
        clear HDONE0 HDONE1
        go_wp2
        go_ret
        exact ⟨_, _, _, _, rfl, ⟨hO.out, hI.out.lim, D.out.2, D.out.1⟩, hG.out, .inl rfl⟩
end NC
end Go.Proofs.YtjihapnplfdmmaaDoor
