/-
  Package nat's contracts by numbers: what each argument tells, and its error.
-/
import Derived.Test.YtjihapnplfdmmaaDoorN17
namespace Go.Proofs.YtjihapnplfdmmaaDoor
open Go.RowKit
set_option linter.unusedVariables false
namespace NC
open L
open Z (Nz Tz cmpv)
/-- limbs that tell 'z', and what Check tells of them -/
def PV (w : World) (v : Value) (er z : Int) : Prop := ∃ l, Sl .u32 w v l ∧ Lim l ∧ l.length ≤ 9223372036854775807 ∧ chk l = er ∧ lv l = z
def big3 : Int := 4294967296 ^ 3000
theorem PV.below {w w' : World} {v : Value} {er z : Int} (h : PV w v er z) (hb : Below w.heap.size w w') : PV w' v er z := by
  obtain ⟨l, h1, h2⟩ := h
  exact ⟨l, h1.below hb, h2⟩
theorem PV.drewN {w : World} {v : Value} {er z : Int} (h : PV w v er z) (k : Nat) : PV (w.drewN k) v er z := h
theorem PV.nv {w : World} {v : Value} {z : Int} (h : PV w v 0 z) : NV w v z := by
  obtain ⟨l, h1, h2, h3, h4, h5⟩ := h
  exact ⟨l, h1, h2, (chk_ok.1 h4).2, h5⟩
theorem PV.small {w : World} {v : Value} {er z : Int} (h : PV w v er z) : 0 ≤ z ∧ (er = 0 → z < 4294967296 ^ 400) := by
  obtain ⟨l, h1, h2, h3, h4, h5⟩ := h
  refine ⟨by rw [← h5]; exact lv_nonneg h2, fun e => ?_⟩
  rw [e] at h4
  rw [← h5]
  exact Int.lt_of_lt_of_le (lv_lt h2) (pow_mono (chk_ok.1 h4).1)
/-- the error of limbs in normal form: too many -/
def erz (z : Int) : Int := if z < 4294967296 ^ 400 then 0 else 2
theorem NV.pv {w : World} {v : Value} {z : Int} (h : NV w v z) (hz : z < big3) : PV w v (erz z) z := by
  obtain ⟨l, h1, h2, h3, h4⟩ := h
  have hl : l.length ≤ 3000 := len_le h2 h3 (by rw [h4]; exact hz)
  refine ⟨l, h1, h2, by omega, ?_, h4⟩
  unfold erz
  by_cases hs : z < 4294967296 ^ 400
  · rw [if_pos hs]
    exact chk_ok.2 ⟨len_le h2 h3 (by rw [h4]; exact hs), h3⟩
  · rw [if_neg hs]
    unfold chk
    rw [if_pos]
    rcases Nat.lt_or_ge 400 l.length with h | h
    · exact h
    · have := Int.lt_of_lt_of_le (lv_lt h2) (pow_mono h)
      omega
/-- the first error of two -/
def ee (a b : Int) : Int := if a ≠ 0 then a else b
theorem ee0 {a b : Int} : ee a b = 0 ↔ a = 0 ∧ b = 0 := by
  unfold ee
  by_cases h : a = 0
  · rw [if_neg (by simpa using h)]; simp [h]
  · rw [if_pos h]; simp [h]
theorem big3_pos : (0 : Int) < big3 := pow_pos 3000
theorem big3_bds {a b : Int} (h1 : a < 4294967296 ^ 400) (h2 : b < 4294967296 ^ 400) (h3 : 0 ≤ a) (h4 : 0 ≤ b) : a + b < big3 ∧ a * b < big3 ∧ a < big3 ∧ b < big3 := by
  unfold big3
  have e : (4294967296 : Int) ^ 400 * 4294967296 ^ 400 = 4294967296 ^ 800 := by rw [← Int.pow_add]
  have h5 : a * b ≤ 4294967296 ^ 400 * 4294967296 ^ 400 := Int.mul_le_mul (Int.le_of_lt h1) (Int.le_of_lt h2) h4 (Int.le_of_lt (pow_pos _))
  have h6 : (4294967296 : Int) ^ 801 = 4294967296 ^ 800 * 4294967296 := Int.pow_succ _ _
  have h7 := pow_pos 800
  have h8 : (4294967296 : Int) ^ 801 ≤ 4294967296 ^ 3000 := pow_mono (by decide)
  have h9 : (4294967296 : Int) ^ 400 ≤ 4294967296 ^ 800 := pow_mono (by decide)
  generalize (4294967296 : Int) ^ 3000 = c3000 at *
  generalize (4294967296 : Int) ^ 801 = c801 at *
  generalize (4294967296 : Int) ^ 800 = c800 at *
  generalize (4294967296 : Int) ^ 400 = c400 at *
  rw [e] at h5
  omega
/-- limbs that are the result of a call, and an error -/
def RetP (w : World) (er z : Int) (e : Ending) (w' : World) : Prop := ∃ A n c, e = .returned (.tuple #[.slice A n c, .int .i64 er]) ∧ PV w' (.slice A n c) (erz z) z ∧ NV w' (.slice A n c) z ∧ Below w.heap.size w w'
theorem RetL.p {w w' : World} {er z : Int} {e : Ending} (h : RetL w er z e w') (hz : z < big3) : RetP w er z e w' := by
  obtain ⟨A, n, c, rfl, hv, hb⟩ := h
  exact ⟨A, n, c, rfl, hv.pv hz, hv, hb⟩
theorem Add_p {u v : Value} {e1 e2 a b : Int} {w : World} (h1 : PV w u e1 a) (h2 : PV w v e2 b) : Calls Tryd.prog 24 #[u, v] w (RetP w (ee e1 e2) (if ee e1 e2 = 0 then a + b else 0)) := by
  have s1 := h1.small
  have s2 := h2.small
  obtain ⟨l, l1, l2, l3, l4, l5⟩ := h1
  obtain ⟨m, m1, m2, m3, m4, m5⟩ := h2
  have hc : chk2 l m = ee e1 e2 := by unfold chk2 ee; rw [l4, m4]
  have h := Add_c u v l m w l1 m1 l3 m3 l2 m2
  rw [hc, l5, m5] at h
  refine h.mono fun e w' h => RetL.p h ?_
  by_cases h0 : ee e1 e2 = 0
  · rw [if_pos h0]
    have h3 := ee0.1 h0
    exact (big3_bds (s1.2 h3.1) (s2.2 h3.2) s1.1 s2.1).1
  · rw [if_neg h0]; exact big3_pos
theorem Mul_p {u v : Value} {e1 e2 a b : Int} {w : World} (h1 : PV w u e1 a) (h2 : PV w v e2 b) : Calls Tryd.prog 28 #[u, v] w (RetP w (ee e1 e2) (if ee e1 e2 = 0 then a * b else 0)) := by
  have s1 := h1.small
  have s2 := h2.small
  obtain ⟨l, l1, l2, l3, l4, l5⟩ := h1
  obtain ⟨m, m1, m2, m3, m4, m5⟩ := h2
  have hc : chk2 l m = ee e1 e2 := by unfold chk2 ee; rw [l4, m4]
  have h := Mul_c u v l m w l1 m1 l3 m3 l2 m2
  rw [hc, l5, m5] at h
  refine h.mono fun e w' h => RetL.p h ?_
  by_cases h0 : ee e1 e2 = 0
  · rw [if_pos h0]
    have h3 := ee0.1 h0
    exact (big3_bds (s1.2 h3.1) (s2.2 h3.2) s1.1 s2.1).2.1
  · rw [if_neg h0]; exact big3_pos
def es (e1 e2 a b : Int) : Int := if ee e1 e2 = 0 then (if a < b then 1 else 0) else ee e1 e2
theorem Sub_p {u v : Value} {e1 e2 a b : Int} {w : World} (h1 : PV w u e1 a) (h2 : PV w v e2 b) : Calls Tryd.prog 31 #[u, v] w (RetP w (es e1 e2 a b) (if es e1 e2 a b = 0 then a - b else 0)) := by
  have s1 := h1.small
  have s2 := h2.small
  obtain ⟨l, l1, l2, l3, l4, l5⟩ := h1
  obtain ⟨m, m1, m2, m3, m4, m5⟩ := h2
  have hc : errSub l m = es e1 e2 a b := by unfold errSub es chk2 ee; rw [l4, m4, l5, m5]
  have h := Sub_c u v l m w l1 m1 l3 m3 l2 m2
  rw [hc, l5, m5] at h
  refine h.mono fun e w' h => RetL.p h ?_
  by_cases h0 : es e1 e2 a b = 0
  · rw [if_pos h0]
    unfold es at h0
    by_cases h4 : ee e1 e2 = 0
    · have h3 := ee0.1 h4
      have := (big3_bds (s1.2 h3.1) (s2.2 h3.2) s1.1 s2.1).2.2.1
      omega
    · rw [if_neg h4] at h0; exact absurd h0 h4
  · rw [if_neg h0]; exact big3_pos
theorem Cmp_p {u v : Value} {e1 e2 a b : Int} {w : World} (h1 : PV w u e1 a) (h2 : PV w v e2 b) : Calls Tryd.prog 30 #[u, v] w (RetQ w (.tuple #[.int .i64 (if ee e1 e2 = 0 then cmpv a b else 0), .int .i64 (ee e1 e2)])) := by
  obtain ⟨l, l1, l2, l3, l4, l5⟩ := h1
  obtain ⟨m, m1, m2, m3, m4, m5⟩ := h2
  have hc : chk2 l m = ee e1 e2 := by unfold chk2 ee; rw [l4, m4]
  have h := Cmp_c u v l m w l1 m1 l3 m3 l2 m2
  rwa [hc, l5, m5] at h
def ed (e1 e2 b : Int) : Int := if ee e1 e2 ≠ 0 then ee e1 e2 else if b = 0 then 1 else 0
def RetDP (w : World) (er q r : Int) (e : Ending) (w' : World) : Prop := ∃ A n c A' n' c', e = .returned (.tuple #[.slice A n c, .slice A' n' c', .int .i64 er]) ∧ PV w' (.slice A n c) (erz q) q ∧ PV w' (.slice A' n' c') (erz r) r ∧ NV w' (.slice A n c) q ∧ NV w' (.slice A' n' c') r ∧ Below w.heap.size w w'
theorem Div_p {u v : Value} {e1 e2 a b : Int} {w : World} (h1 : PV w u e1 a) (h2 : PV w v e2 b) : Calls Tryd.prog 29 #[u, v] w (RetDP w (ed e1 e2 b) (if ed e1 e2 b = 0 then a / b else 0) (if ed e1 e2 b = 0 then a % b else 0)) := by
  have s1 := h1.small
  have s2 := h2.small
  obtain ⟨l, l1, l2, l3, l4, l5⟩ := h1
  obtain ⟨m, m1, m2, m3, m4, m5⟩ := h2
  have hc : errDiv l m = ed e1 e2 b := by
    unfold errDiv ed
    have hc2 : chk2 l m = ee e1 e2 := by unfold chk2 ee; rw [l4, m4]
    rw [hc2]
    by_cases h0 : ee e1 e2 = 0
    · have h3 := ee0.1 h0
      rw [h0]
      simp only [ne_eq, not_true_eq_false, if_false]
      rw [h3.2] at m4
      have hz : m = [] ↔ b = 0 := by
        constructor
        · intro e; rw [← m5, e]; rfl
        · intro e
          rcases Classical.em (m = []) with h | h
          · exact h
          · have a1 := lv_ge m2 (chk_ok.1 m4).2 h
            have a2 := pow_pos (m.length - 1)
            omega
      by_cases h4 : m = []
      · rw [if_pos h4, if_pos (hz.1 h4)]
      · rw [if_neg h4, if_neg (fun e => h4 (hz.2 e))]
    · rw [if_pos h0, if_pos h0]
  have h := Div_c u v l m w l1 m1 l3 m3 l2 m2
  rw [hc, l5, m5] at h
  refine h.mono fun e w' h => ?_
  obtain ⟨A, n, c, A', n', c', rfl, hq, hr, hb⟩ := h
  have hbd : (if ed e1 e2 b = 0 then a / b else 0) < big3 ∧ (if ed e1 e2 b = 0 then a % b else 0) < big3 := by
    by_cases h0 : ed e1 e2 b = 0
    · rw [if_pos h0, if_pos h0]
      unfold ed at h0
      by_cases h4 : ee e1 e2 = 0
      · have h3 := ee0.1 h4
        rw [if_neg (by simpa using h4)] at h0
        have hb0 : b ≠ 0 := by intro e; rw [if_pos e] at h0; cases h0
        have h5 := (big3_bds (s1.2 h3.1) (s2.2 h3.2) s1.1 s2.1)
        have h6 := Int.ediv_le_self b s1.1
        have h7 := Int.emod_lt_of_pos a (show 0 < b by omega)
        omega
      · rw [if_pos h4] at h0; exact absurd h0 h4
    · rw [if_neg h0, if_neg h0]; exact ⟨big3_pos, big3_pos⟩
  exact ⟨A, n, c, A', n', c', rfl, hq.pv hbd.1, hr.pv hbd.2, hq, hr, hb⟩
theorem Equal_p {s t : Value} {y z : Int} {w : World} (hs : NV w s y) (ht : NV w t z) (b1 : y < big3) (b2 : z < big3) : Calls Tryd.prog 26 #[s, t] w (RetQ w (.bool (decide (y = z)))) := equal_nv s t y z w hs ht b1 b2
/-- a root -/
def RetRP (w : World) (er z : Int) (e : Ending) (w' : World) : Prop :=
  ∃ A n c b R, e = .returned (.tuple #[.slice A n c, .bool b, .int .i64 er]) ∧ NV w' (.slice A n c) R ∧ Below w.heap.size w w' ∧ Hid (er = 0 → R * R ≤ z ∧ z < (R + 1) * (R + 1) ∧ 0 ≤ R ∧ b = decide (R * R ≠ z)) ∧ Hid (er ≠ 0 → R = 0 ∧ b = false)
theorem Root_p {u : Value} {e1 a : Int} {w : World} (h1 : PV w u e1 a) : Calls Tryd.prog 10 #[u] w (RetRP w e1 a) := by
  obtain ⟨l, l1, l2, l3, l4, l5⟩ := h1
  have h := Root_c u l w l1 l3 l2
  rwa [l4, l5] at h
theorem Text_p {u : Value} {a : Int} {w : World} (h1 : PV w u 0 a) : Calls Tryd.prog 11 #[u] w (RetTx w 0 (bs (dec a.toNat))) := by
  obtain ⟨l, l1, l2, l3, l4, l5⟩ := h1
  have h := Text_c u l w l1 l3 l2
  rwa [l4, l5, if_pos rfl] at h
/-- limbs laid down in new memory -/
theorem PV.lit (w : World) (l : List Int) (hl : Lim l) (hn : l.length ≤ 9223372036854775807) : PV (w.alloc (.cells (l.map (Value.int .u32)).toArray 50)) (.slice (some ⟨w.heap.size, 0, none⟩) l.length l.length) (chk l) (lv l) :=
  ⟨l, Row.sl (L := l) (Blk.new w 50 _) _ (Nat.le_refl _), hl, hn, rfl, rfl⟩
end NC
end Go.Proofs.YtjihapnplfdmmaaDoor
