/-
  Words for memory: limbs copied into a new zeroed block; what a call tells: limbs in normal form, and an error.
-/
import Derived.Test.YtjihapnplfdmmaaDoorN3
import Derived.Laws.CopyOwn
namespace Go.Proofs.YtjihapnplfdmmaaDoor
open Go.RowKit
set_option linter.unusedVariables false
namespace NC
open L
open Z (Nz Tz cmpv)
theorem Wn.row (L : List Int) : Wn ((L.map (Value.int .u32)).toArray) 0 L := by
  intro j hj
  rw [List.getElem?_toArray, List.getElem?_map, Nat.zero_add, List.getD_eq_getElem?_getD, List.getElem?_eq_getElem hj]
  rfl
theorem splice_limbs (N : Nat) (l : List Int) (h : l.length ≤ N) : splice ((List.replicate N (0 : Int)).map (Value.int .u32)) 0 (l.map (Value.int .u32)) = (l ++ List.replicate (N - l.length) 0).map (Value.int .u32) := by
  simp [splice]
theorem wp_copy_limbs {w : World} {ops : Array Oper} {rest : List Oper} {o : Oper} {a : Act} {Q : Exit → Act → World → Prop} (hgd : o.guard = none) (d s : Operand)
    (ho : o.op = .call { callee := .builtin .copy, args := #[d, s], argTypes := #[22, 22] }) (g N : Nat) (hd : a.eval d = .slice (some ⟨g, 0, none⟩) N N) (vs : Value) (hs : a.eval s = vs) (l : List Int) (hS : Sl .u32 w vs l) (hl : l.length ≤ N)
    (hg : Row .u32 50 w g (List.replicate N 0)) (B : Nat) (w0 : World) (hb : Below B w0 w) (hBg : B ≤ g)
    (h : ∀ w', Hid (Row .u32 50 w' g (l ++ List.replicate (N - l.length) 0)) → Below B w0 w' → wpList Tryd.prog ops Q rest (a.put o.dst (goInt l.length)) w') : wpList Tryd.prog ops Q (o :: rest) a w := by
  obtain ⟨A, c, rfl, hc, hA⟩ := hS
  refine wpList_copy_splice hgd d s 22 22 ho 50 Tryd.underlying22 (by kernel_rfl) (some ⟨g, 0, none⟩) A N N l.length c hd hs g 0 ((List.replicate N (0 : Int)).map (Value.int .u32)) 50 hg (l.map (Value.int .u32)) (by rw [List.length_map]; exact (Nat.min_eq_left hl).symm)
    (fun h0 => ⟨rfl, ?_⟩) (by simp; exact hl) (by intro v hv; obtain ⟨z, _, rfl⟩ := List.mem_map.1 hv; rfl) B w0 hb hBg ?_
  · rcases hA with h1 | ⟨ad, rfl, hb1, hc1⟩
    · subst h1; simp at h0
    · refine ⟨ad, rfl, fun j v hv => ?_⟩
      have hj : j < l.length := by
        rcases Nat.lt_or_ge j l.length with h | h
        · exact h
        · rw [List.getElem?_eq_none (by simpa using h)] at hv; cases hv
      rw [hc1 j hj]
      rw [List.getElem?_map, List.getElem?_eq_getElem hj] at hv
      simpa using hv
  · intro w' hw' hb'
    have hR := hw'.out
    rw [splice_limbs N l hl] at hR
    have := h w' hR hb'
    simpa using this
/-- limbs in normal form that tell 'z', and an error -/
def RetL (w : World) (er z : Int) (e : Ending) (w' : World) : Prop := ∃ A n c, e = .returned (.tuple #[.slice A n c, .int .i64 er]) ∧ NV w' (.slice A n c) z ∧ Below w.heap.size w w'
theorem NV.nil (w : World) (c : Nat) (A : Option Addr) : NV w (.slice A 0 c) 0 := ⟨[], Sl.nil _ _ _ _, Lim.nil, (by intro h; exact absurd rfl h), rfl⟩
theorem RetL.err {w w' : World} {er : Int} (hb : Below w.heap.size w w') : RetL w er 0 (.returned (.tuple #[.slice none 0 0, .int .i64 er])) w' := ⟨none, 0, 0, rfl, NV.nil _ _ _, hb⟩
theorem chk_ok {l : List Int} : chk l = 0 ↔ l.length ≤ 400 ∧ Nz l := by
  unfold chk
  by_cases h4 : 400 < l.length
  · rw [if_pos h4]; constructor
    · intro h; cases h
    · intro h; omega
  · rw [if_neg h4]
    by_cases hne : l = []
    · subst hne
      exact ⟨fun _ => ⟨by simp, fun h => absurd rfl h⟩, fun _ => rfl⟩
    · by_cases h0 : l.getLast hne = 0
      · rw [if_pos (by rw [List.getLast?_eq_some_getLast hne, h0])]
        constructor
        · intro h; cases h
        · intro h; exact absurd h0 (h.2 hne)
      · rw [if_neg (by rw [List.getLast?_eq_some_getLast hne]; simpa using h0)]
        exact ⟨fun _ => ⟨by omega, fun _ => h0⟩, fun _ => rfl⟩
theorem chk2_ok {l m : List Int} : chk2 l m = 0 ↔ chk l = 0 ∧ chk m = 0 := by
  unfold chk2
  by_cases h : chk l = 0
  · rw [if_neg (by simpa using h)]; simp [h]
  · rw [if_pos h]; simp [h]
theorem trimmed {w' : World} {A : Option Addr} {c m : Nat} {L : List Int} {z : Int} (hs : Sl .u32 w' (.slice A L.length c) L) (hm : m ≤ L.length) (hl : Lim L) (hn : Nz (L.take m)) (hv : lv (L.take m) = lv L) (hz : lv L = z) : NV w' (.slice A m c) z :=
  ⟨L.take m, hs.take m hm, hl.take m, hn, hv.trans hz⟩
theorem Ed.sl {w w' : World} {g : Nat} {cs : Array Value} {o n : Nat} {M : List Int} (h : Ed w w' g cs o n M) (c : Nat) (hc : n ≤ c) : Sl .u32 w' (.slice (some ⟨g, o, none⟩) M.length c) M := by
  obtain ⟨cs', hb, _, hM, _⟩ := h.blk
  refine ⟨_, c, rfl, by rw [h.len]; exact hc, .inr ⟨⟨g, o, none⟩, rfl, hb.lt, fun j hj => ?_⟩⟩
  have e : (⟨g, o, none⟩ : Addr).add j = ⟨g, o + j, none⟩ := by unfold Addr.add; split <;> simp_all
  rw [e, hb.at_ _ (hM j hj), List.getD_eq_getElem?_getD, List.getElem?_eq_getElem hj]; rfl
theorem lv_pad (l : List Int) (k : Nat) : lv (l ++ List.replicate k 0) = lv l := by rw [lv_append, lv_rep]; simp
theorem Lim.pad {l : List Int} (h : Lim l) (k : Nat) : Lim (l ++ List.replicate k 0) := h.app (Lim.rep k)
theorem len_pad (l : List Int) (N : Nat) (h : l.length ≤ N) : (l ++ List.replicate (N - l.length) 0).length = N := by simp; omega
theorem no_carry {l m M : List Int} {N : Nat} {k : Int} (hl : Lim l) (hm : Lim m) (h1 : l.length < N) (h2 : m.length < N) (hM : Lim M) (k0 : 0 ≤ k) (h : lv M + 4294967296 ^ N * k = lv l + lv m) : lv M = lv l + lv m := by
  obtain ⟨n, rfl⟩ : ∃ n, N = n + 1 := ⟨N - 1, by omega⟩
  have a1 := Int.lt_of_lt_of_le (lv_lt hl) (pow_mono (show l.length ≤ n by omega))
  have a2 := Int.lt_of_lt_of_le (lv_lt hm) (pow_mono (show m.length ≤ n by omega))
  have a3 := lv_nonneg hM
  have a4 := pow_pos n
  rw [Int.pow_succ] at h
  by_cases hk : k = 0
  · subst hk; simpa using h
  · have : (4294967296 : Int) ^ n * 4294967296 * 1 ≤ 4294967296 ^ n * 4294967296 * k := Int.mul_le_mul_of_nonneg_left (by omega) (by omega)
    omega
end NC
end Go.Proofs.YtjihapnplfdmmaaDoor
