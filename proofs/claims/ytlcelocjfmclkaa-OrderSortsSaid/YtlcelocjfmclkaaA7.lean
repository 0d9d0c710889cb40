/-
  order.Sort: the library's slices.SortFunc, taken by the shelf's contract, sorts by the keys; what it tells is the one sorted list.
-/
import Derived.Test.YtlcelocjfmclkaaA6
import Derived.Test.YtlcelocjfmclkaaLay
namespace Go.Proofs.Ytlcelocjfmclkaa
open Go.RowKit
set_option linter.unusedVariables false
set_option linter.unusedSimpArgs false
namespace AC
open Go.Sort Go.Lib
/-- a number's bits, as an element type -/
abbrev U : Type := {x : Int // 0 ≤ x ∧ x ≤ 18446744073709551615}
instance : Inhabited U := ⟨⟨0, by decide, by decide⟩⟩
def mkU (x : Int) : U := if h : 0 ≤ x ∧ x ≤ 18446744073709551615 then ⟨x, h⟩ else default
theorem mkU_val {x : Int} (h : 0 ≤ x ∧ x ≤ 18446744073709551615) : (mkU x).1 = x := by unfold mkU; rw [dif_pos h]
def encU (u : U) : Value := .int .u64 u.1
def cfU (u v : U) : Int := A.tot u.1 v.1
theorem ltU (u v : U) : ltOf cfU u v = decide (A.key u.1 < A.key v.1) := by
  unfold ltOf cfU A.tot
  rcases A.ct_3 (A.key u.1) (A.key v.1) with ⟨h, e⟩ | ⟨h, e⟩ | ⟨h, e⟩ <;> rw [e]
  · simp [h]
  · rw [decide_eq_decide]; omega
  · rw [decide_eq_decide]; omega
theorem swoU : SWO (ltOf cfU) where
  irrefl x := by rw [ltU]; simp
  trans x y z h1 h2 := by rw [ltU] at *; simp at *; omega
  ntrans x y z h1 h2 := by rw [ltU] at *; simp at *; omega
theorem totU (u v : U) (h1 : ltOf cfU u v = false) (h2 : ltOf cfU v u = false) : u = v := by
  rw [ltU] at *; simp at *
  exact Subtype.ext (A.key_inj u.2.1 u.2.2 v.2.1 v.2.2 (by omega))
theorem map_mkU {L : List Int} (hu : u64s L) : (L.map mkU).map (·.1) = L := by
  rw [List.map_map]
  conv => rhs; rw [← List.map_id L]
  exact List.map_congr_left fun x hx => mkU_val (hu x hx)
/-- sorted by the library: the one sorted list -/
theorem sortU {L : List Int} (hu : u64s L) : (((L.map mkU).mergeSort fun x y => !(ltOf cfU) y x).map (·.1)) = A.insAll L := by
  have hp : ((L.map mkU).mergeSort fun x y => !(ltOf cfU) y x).Perm (L.map mkU) := List.mergeSort_perm _ _
  have hp2 := hp.map (·.1)
  rw [map_mkU hu] at hp2
  have hA := A.insAll_ok L
  refine A.one_sorted _ _ (hp2.trans hA.2.symm) ?_ hA.1 (A.mem_u64 hp2 hu)
  unfold A.Srt
  rw [List.pairwise_map]
  have := List.pairwise_mergeSort (le := fun x y : U => !(ltOf cfU) y x) (fun a b c h1 h2 => by rw [ltU] at *; simp at *; omega) (fun a b => by rw [ltU, ltU]; simp; omega) (L.map mkU)
  refine this.imp fun {a b} h => ?_
  rw [ltU] at h
  simpa using h
theorem cmpU (blk off size : Nat) (w : World) : CmpLays1 Try.prog 13 #[] encU cfU blk off size w := by
  refine CmpReads.lays fun _ _ _ _ x y => ?_
  exact (Total_c x.1 y.1 x.2.1 x.2.2 y.2.1 y.2.2 _).mono fun e w' ⟨he, hw⟩ => ⟨he, 0, hw.symm⟩
theorem sorted_grown {w : World} {g n : Nat} {os : Array Obj} (d : Array U) : w.grownBy (sortWorld encU w g 0 n d os) (some g) := by
  unfold sortWorld
  refine ⟨rfl, rfl, rfl, by simp, fun k hk hne => ?_⟩
  rw [heap_grow_old _ _ (by simpa using hk)]
  have : g ≠ k := fun e => hne (by rw [e])
  simp [putRow, mapBlock, Sort.ahead, Array.getElem?_modify, this]
theorem sorted_own {w : World} {base g c m : Nat} {os : Array Obj} {L : List Int} (M : List U) (h : OwnQ w base (.slice (some ⟨g, 0, none⟩) L.length c) L) (hM : M.length = L.length) :
    OwnQ (sortWorld encU w g 0 m M.toArray os) base (.slice (some ⟨g, 0, none⟩) L.length c) (M.map (·.1)) := by
  rcases h.2 with ⟨h0, _⟩ | ⟨g', c', cur, e, hg, hb, h1, h2, h3, h4⟩
  · cases h0
  injection e with e1 _ e3
  injection e1 with e1
  injection e1 with e1
  subst e1 e3
  have hlt : g < w.heap.size := (Array.getElem?_eq_some_iff.1 hb).1
  refine ⟨by simp, .inr ⟨g, c, putCells encU 0 M.toArray cur, by simp [hM], hg, ?_, by simpa [hM] using h1, h2, by simp [putCells, h3], ?_⟩⟩
  · unfold sortWorld
    rw [heap_grow_old _ _ (by simpa using hlt)]
    simp [putRow, mapBlock, Sort.ahead, Array.getElem?_modify, hb, onCells]
  · apply List.ext_getElem?
    intro j
    rw [List.length_map, Nat.mul_one]
    by_cases hj : j < M.length
    · rw [List.getElem?_take_of_lt hj, Array.getElem?_toList]
      simp [putCells, hj, encU, show j < cur.size by omega]
    · rw [List.getElem?_take_eq_none (by omega), List.getElem?_eq_none (by simp; omega)]
theorem SortFunc_c (base g n c : Nat) (L : List Int) (hu : u64s L) (w : World) (h : OwnQ w base (.slice (some ⟨g, 0, none⟩) n c) L) (hl : L.length < 4611686018427387904) :
    Calls Try.prog 30 #[.slice (some ⟨g, 0, none⟩) n c, .func (.func 13) #[] #[]] w fun e w' => e = .returned (.tuple #[]) ∧ w.grownBy w' (some g) ∧ OwnQ w' base (.slice (some ⟨g, 0, none⟩) n c) (A.insAll L) := by
  have hn : n = L.length := (Own.sl h).len_.1
  subst hn
  have eg : ∀ args w, (callFunc 13 args).run Try.prog w = .ok (.enter 13 args) w := enters_of Try.func13 (by kernel_rfl) rfl
  have hH : Holds encU w g 0 (L.map mkU).toArray := by
    intro j hj
    have hj' : j < L.length := by simpa using hj
    rw [Nat.zero_add]
    refine ⟨?_, OwnQ.frozen h j⟩
    rw [OwnQ.cell h j hj', getElem!_pos _ j hj, List.getElem_toArray, List.getElem_map, List.getD_eq_getElem?_getD, List.getElem?_eq_getElem hj']
    unfold encU
    rw [mkU_val (hu _ (List.getElem_mem hj'))]; rfl
  have hblk : g < w.heap.size := (Own.lt h g rfl).2
  have hcon := Any.slices_SortFunc_total Try.sortL encU (fun _ => rfl) cfU swoU 13 #[] g 0 c (L.map mkU).toArray w eg (cmpU g 0 _ w) hH hblk (by simpa using hl) totU
  rw [show (L.map mkU).toArray.size = L.length by simp] at hcon
  refine Calls.mono (show Calls Try.prog 30 _ _ _ from hcon) ?_
  rintro e w' ⟨rfl, m, os, rfl⟩
  refine ⟨rfl, sorted_grown _, ?_⟩
  have := sorted_own (m := m) (os := os) ((L.map mkU).mergeSort fun x y => !(ltOf cfU) y x) h (by simp)
  rw [sortU hu] at this
  exact this
end AC
end Go.Proofs.Ytlcelocjfmclkaa
