/-
  Package prod: slices.Chunk: what it hands back, and the rounds over it.
-/
import Derived.RangeFuncNested
import Derived.RangeFuncBound
import Derived.RangeFuncCalls
import Derived.RangeFuncLeaves
import Derived.RangeFuncWrites
import Derived.Shelf.Abstract
import Derived.Shelf.RegionOpen
import Derived.WalkKit
import Derived.OwnWalkIn
import Derived.TacticsInMore
import Derived.LoopNIn
import Derived.LoopIn
import Derived.Test.YtjplemfdhhkbaaaDoorP7
import Derived.Test.YtjplemfdhhkbaaaDoorHeld3
namespace Go.Proofs.YtjplemfdhhkbaaaDoor
set_option linter.unusedVariables false
set_option linter.unusedSimpArgs false
open Go.RowKit Go.Shelf
set_option linter.unusedVariables false
set_option linter.unusedSimpArgs false
attribute [local go_sem] Oper.semAt_some
namespace PC
/-- under the wide fence, in a round: what no fence asks is enough -/
theorem rowsIn_wide' {l n : Nat} {P : Program} {row : String} {args : Array Value} {w : World} {R : Value → World → Prop} (h : Rows P row args w R) : RowsIn (Fence.wide.inRound l) n P row args w R :=
  fun c cs _ => let ⟨v, w', r, s⟩ := h c cs; ⟨v, w', r, (stepsIn_wide (P := P)).2 s⟩
theorem wpOpIn_of {l n : Nat} {P : Program} {ops : Array Oper} {Q : Exit → Act → World → Prop} {i : Nat} {K : Act → World → Prop} {a : Act} {w : World} (hd : ∀ o, ops[i]? = some o → ∀ c, o.op ≠ .defer c) (hQ : ¬ LetsOut Q)
    (h : wpOp P ops Q i K a w) : wpOpIn (Fence.wide.inRound l) n P ops Q i K a w := by
  unfold wpOp at h
  unfold wpOpIn
  cases hi : ops[i]? with
  | none => rw [hi] at h; exact h
  | some o =>
    rw [hi] at h
    dsimp only at h ⊢
    by_cases hw : Region.wanted o (yielded ops a.tmps) = true
    · rw [if_pos hw] at h ⊢
      have h := h.resolve_right (fun k => hQ k.2)
      refine ⟨fun _ _ => trivial, ?_⟩
      rw [show (Fence.wide.inRound l).round = some l from rfl, Oper.semAt_some l _ o (hd o hi)]
      unfold Oper.wp at h
      revert h
      generalize (execOp a.eval o).run P w = r
      intro h
      cases r with
      | ok x w' =>
        cases x with
        | enter f args => exact ⟨fun h => (by cases h), callsIn_wide.2 h⟩
        | row row args => exact ⟨fun h => (by cases h), rowsIn_wide' h⟩
        | round _ _ _ _ _ => exact False.elim h
        | _ => exact h
      | halt x w' => cases x <;> exact h
    · rw [if_neg hw] at h ⊢
      exact ⟨fun _ _ => trivial, h⟩
theorem wpAnyIn_of {l n : Nat} {P : Program} {md : Region.Mode} {ops : Array Oper} {Q : Exit → Act → World → Prop} (hd : ∀ (i : Nat) (o : Oper), ops[i]? = some o → ∀ c, o.op ≠ .defer c) (hQ : ¬ LetsOut Q) :
    ∀ (fuel : Nat) (listed : Array Bool) (a : Act) (w : World), wpAny P md ops Q fuel listed a w → wpAnyIn (Fence.wide.inRound l) n P md ops Q fuel listed a w
  | 0, _, _, _, h => h
  | fuel + 1, _, _, _, h => ⟨h.1, fun i hi => wpOpIn_of (hd i) hQ (wpOp_mono (fun a' w' h' => wpAnyIn_of hd hQ fuel _ a' w' h') (h.2 i hi))⟩
/-- no operation of a region is a 'defer' -/
def noDefer (ops : Array Oper) : Bool := ops.all fun o => match o.op with
  | .defer _ => false
  | _ => true
theorem noDefer_spec {ops : Array Oper} (h : noDefer ops = true) : ∀ (i : Nat) (o : Oper), ops[i]? = some o → ∀ c, o.op ≠ .defer c := by
  intro i o hi c hc
  unfold noDefer at h
  rw [Array.all_eq_true] at h
  obtain ⟨hlt, e⟩ := Array.getElem?_eq_some_iff.1 hi
  have := h i hlt
  rw [e, hc] at this
  cases this
theorem wpIn_region_L {l n : Nat} {P : Program} {ops : Array Oper} {Q : Exit → Act → World → Prop} {S : World → Prop} {nl : Nat} {id : Nat} {a : Act} {w : World} (hm : P.follows .mixedOrders = true) (hd : noDefer ops = true) (hQ : ¬ LetsOut Q)
    (hS : S w.drew) (h : S w.drew → wpAnyL P .any ops Q S nl ops.size (Array.replicate ops.size false) a w.drew) : (Code.region id ops true).wpIn (Fence.wide.inRound l) n P Q a w :=
  wpIn_region_any hm (wpAnyIn_of (noDefer_spec hd) hQ _ _ _ _ (wpAny_of_L _ _ _ _ (h hS)))
theorem grown_drew' (w : World) : w.grownBy w.drew none := ⟨rfl, rfl, rfl, Nat.le_refl _, fun _ _ _ => rfl⟩
/-- slices.Chunk(s, 2) -/
theorem chunk_in (n : Nat) (A : Option Addr) (len cap : Nat) (w : World) :
    CallsIn Fence.wide n Tryd.prog 89 #[.slice A len cap, .int .i64 2] w fun e w' => e = .returned (.func (.func 113) #[] #[.pointer (some ⟨w.heap.size, 0, none⟩), .pointer (some ⟨w.heap.size + 1, 0, none⟩)]) ∧ w' = (w.alloc (.cells #[.slice A len cap] 65)).alloc (.cells #[.int .i64 2] 3) := by
  refine callsIn_of_wp Tryd.func89 rfl trivial ?_ rfl
  simp only [Tryd.ntmps89, List.size_toArray, List.length_cons, List.length_nil, Nat.reduceAdd, Nat.reduceSub, Array.replicate_succ, Array.replicate_zero, List.push_toArray, List.append_toArray, List.nil_append, List.cons_append]
  gi_wp2
  go_ret
  exact ⟨rfl, rfl⟩
/-- what a round that goes on keeps -/
def Kc (n₀ B1 B2 : Nat) (W W' : World) : Prop := Below n₀ W W' ∧ W.heap.size ≤ W'.heap.size ∧ W'.heap[B1]? = W.heap[B1]? ∧ W'.heap[B2]? = W.heap[B2]?
theorem Kc.trans {n₀ B1 B2 : Nat} {A B C : World} (h : Kc n₀ B1 B2 A B) (k : Kc n₀ B1 B2 B C) : Kc n₀ B1 B2 A C := ⟨h.1.trans k.1, Nat.le_trans h.2.1 k.2.1, k.2.2.1.trans h.2.2.1, k.2.2.2.trans h.2.2.2⟩
theorem Kc.put {n₀ B1 B2 : Nat} {w : World} (h0 : n₀ ≤ w.heap.size) (h1 : B1 < w.heap.size) (h2 : B2 < w.heap.size) (W : World) (l : Nat) (o o' : Obj) (hl : w.heap.size ≤ l) (ho : W.heap[l]? = some o) (hc : o.isCells = false) (hw : o.isWalk = false) : Kc n₀ B1 B2 W (W.putObj l o') :=
  ⟨belowK_b h0 W l o o' hl ho hc hw, by simp, World.putObj_heap_other (by omega), World.putObj_heap_other (by omega)⟩
/-- the rounds over a slice of an even length: its pairs, in order -/
def ec {m : Nat} (ad : Addr) (x : Fin m) : Array Value := #[.slice (some (ad.add (2 * x.1))) 2 2]
set_option maxRecDepth 100000 in
set_option maxHeartbeats 2000000 in
theorem chunk1_in (n : Nat) (hn : 1 ≤ n) (l B1 B2 n₀ m len cap : Nat) (ad : Addr) (hlen : len = 2 * m) (hm : m ≤ 100) (hcap : len ≤ cap) (J Jx : List (Fin m) → World → Prop) (W : World) (hJ : AbidesFrom W.heap.size J)
    (hY : ∀ pre x W, J pre W → pre.length < m → YieldAt Fence.wide (n - 1) Tryd.prog l (ec ad x) W fun e W' =>
      (e = .returned (.bool true) ∧ J (pre ++ [x]) W' ∧ Kc n₀ B1 B2 W W') ∨ (e = .returned (.bool false) ∧ Jx (pre ++ [x]) W'))
    (c1 : W.cell? ⟨B1, 0, none⟩ = some (.slice (some ad) len cap)) (c2 : W.cell? ⟨B2, 0, none⟩ = some (.int .i64 2)) (h0 : J [] W) :
    CallsIn Fence.wide n Tryd.prog 113 #[.func (.yield l) #[] #[], .pointer (some ⟨B1, 0, none⟩), .pointer (some ⟨B2, 0, none⟩)] W fun e W' => (∃ v, e = .returned v) ∧
      ((∃ xs, xs.map (·.1) = List.range m ∧ J xs W') ∨ (∃ pre, True ∧ Jx pre W')) := by
  have HJ := Lib.hid hJ
  have HY := Lib.hid hY
  have HL := Lib.hid hlen
  have hl200 : len ≤ 200 := by omega
  clear hJ hY hlen hm
  refine callsIn_of_wp Tryd.func113 rfl trivial ?_ rfl
  simp only [Tryd.ntmps113, List.size_toArray, List.length_cons, List.length_nil, Nat.reduceAdd, Nat.reduceSub, Array.replicate_succ, Array.replicate_zero, List.push_toArray, List.append_toArray, List.nil_append, List.cons_append]
  gi_wp2
  gi_loopw [4] (fun i wr => ∃ (k j : Nat) (pre : List (Fin m)), i = .int .i64 (j : Int) ∧ Hid (j = 2 * k) ∧ j ≤ len ∧ Hid (pre.map (·.1) = List.range k) ∧ J pre wr ∧ Hid (W.heap.size ≤ wr.heap.size) ∧ wr.cell? ⟨B1, 0, none⟩ = some (.slice (some ad) len cap) ∧ wr.cell? ⟨B2, 0, none⟩ = some (.int .i64 2))
    (fun i _ => len - (intOf i).toNat)
  case atStart => exact ⟨0, 0, [], rfl, rfl, Nat.zero_le _, rfl, h0, Nat.le_refl _, c1, c2⟩
  case round =>
    obtain ⟨k, j, pre, rfl, hj, hjl, hp, hJs, hz, d1, d2⟩ := hrel
    clear c1 c2 h0
    by_cases hlt : j < len
    · have hkm : k < m := by have := hj.out; have := HL.out; omega
      have hj2 : j + 2 ≤ len := by have := hj.out; have := HL.out; omega
      have hl : pre.length = k := by have := congrArg List.length hp.out; simpa using this
      have hmin : min (2 : Int) ((len - j : Nat) : Int) = 2 := by omega
      have hJd := HJ.out pre wr wr.drew none hJs (grown_drew' wr) (fun r e => by cases e)
      obtain ⟨fn, tmps, assign, body, hy, hR⟩ := HY.out pre ⟨k, hkm⟩ wr.drew hJd (by rw [hl]; exact hkm)
      unfold ec at hy
      rw [show 2 * (⟨k, hkm⟩ : Fin m).1 = j from hj.out.symm] at hy
      clear hl
      gi_wp2
      gi_region
      gi_wp2
      refine hR.mono ?_
      rintro e W3 (⟨rfl, hJ3, hk3⟩ | ⟨rfl, hJx3⟩)
      · have d1' : W3.cell? ⟨B1, 0, none⟩ = some (.slice (some ad) len cap) := (World.cell?_of_block (a := ⟨B1, 0, none⟩) hk3.2.2.1).trans d1
        have d2' : W3.cell? ⟨B2, 0, none⟩ = some (.int .i64 2) := (World.cell?_of_block (a := ⟨B2, 0, none⟩) hk3.2.2.2).trans d2
        have hz3 : Hid (W.heap.size ≤ W3.heap.size) := Nat.le_trans hz.out hk3.2.1
        have hp3 : Hid ((pre ++ [(⟨k, hkm⟩ : Fin m)]).map (fun x : Fin m => x.1) = List.range (k + 1)) := by
          have := hp.out
          show _ = _
          rw [List.map_append, this, List.range_succ]; rfl
        have hj3 : Hid (j + 2 = 2 * (k + 1)) := by have := hj.out; show _ = _; omega
        gi_wp2
        go_roundw
        case rel => exact ⟨k + 1, j + 2, pre ++ [⟨k, hkm⟩], by go_num, hj3, hj2, hp3, hJ3, hz3, d1', d2'⟩
        case measure => simp [intOf]; omega
      · gi_wp2
        refine bodyPost_ret (results_none rfl _ _ _) rfl ?_
        exact ⟨⟨_, rfl⟩, .inr ⟨_, trivial, hJx3⟩⟩
    · have hp3 : Hid (pre.map (·.1) = List.range m) := by
        have h1 := hp.out
        have h2 := hj.out
        have h3 := HL.out
        have e : k = m := by omega
        rw [e] at h1; exact h1
      gi_wp2
      go_end0
      exact ⟨⟨_, rfl⟩, .inl ⟨pre, hp3.out, hJs⟩⟩
/-- .. of the slice without elements: no round -/
theorem chunk0_in (n : Nat) (l B1 B2 : Nat) (A : Option Addr) (cap : Nat) (J : List (Fin 0) → World → Prop) (W : World)
    (c1 : W.cell? ⟨B1, 0, none⟩ = some (.slice A 0 cap)) (h0 : J [] W) :
    CallsIn Fence.wide n Tryd.prog 113 #[.func (.yield l) #[] #[], .pointer (some ⟨B1, 0, none⟩), .pointer (some ⟨B2, 0, none⟩)] W fun e W' => (∃ v, e = .returned v) ∧ J [] W' := by
  refine callsIn_of_wp Tryd.func113 rfl trivial ?_ rfl
  simp only [Tryd.ntmps113, List.size_toArray, List.length_cons, List.length_nil, Nat.reduceAdd, Nat.reduceSub, Array.replicate_succ, Array.replicate_zero, List.push_toArray, List.append_toArray, List.nil_append, List.cons_append]
  gi_wp2
  gi_loopw [4] (fun i wr => i = .int .i64 0 ∧ J [] wr ∧ wr.cell? ⟨B1, 0, none⟩ = some (.slice A 0 cap)) (fun _ _ => 0)
  case atStart => exact ⟨rfl, h0, c1⟩
  case round =>
    obtain ⟨rfl, hJs, c1'⟩ := hrel
    clear c1
    gi_wp2
    go_end0
    exact ⟨⟨_, rfl⟩, hJs⟩
/-- the address of a slice, if it has one -/
def ad0 (A : Option Addr) : Addr := A.getD ⟨0, 0, none⟩
theorem chunk_stops (n : Nat) (hn : 1 ≤ n) (B1 B2 n₀ m len cap : Nat) (A : Option Addr) (hA : A = none → len = 0) (hlen : len = 2 * m) (hm : m ≤ 100) (hcap : len ≤ cap) (w : World)
    (hB1 : B1 < w.heap.size) (hB2 : B2 < w.heap.size) (c1 : w.cell? ⟨B1, 0, none⟩ = some (.slice A len cap)) (c2 : w.cell? ⟨B2, 0, none⟩ = some (.int .i64 2)) :
    SeqStopsK Fence.wide n Tryd.prog 113 #[.pointer (some ⟨B1, 0, none⟩), .pointer (some ⟨B2, 0, none⟩)] (ec (m := m) (ad0 A)) (Kc n₀ B1 B2) (fun xs => xs.map (·.1) = List.range m) (fun _ => True) m w := fun l J Jx W hW hJ hJx hY h0 => by
  have d1 := (hW.cell (p := ⟨B1, 0, none⟩) hB1).trans c1
  have d2 := (hW.cell (p := ⟨B2, 0, none⟩) hB2).trans c2
  cases A with
  | none =>
    obtain rfl := hA rfl
    obtain rfl : m = 0 := by omega
    exact (chunk0_in n l B1 B2 none cap J W d1 h0).mono fun e W' ⟨he, hj⟩ => ⟨he, .inl ⟨[], rfl, hj⟩⟩
  | some ad => exact chunk1_in n hn l B1 B2 n₀ m len cap ad hlen hm hcap J Jx W hJ hY d1 d2 h0
end PC
end Go.Proofs.YtjplemfdhhkbaaaDoor
