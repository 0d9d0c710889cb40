/-
  Package nat: squareRoot, Root; Bits.
-/
import Derived.Test.YtjihapnplfdmmaaDoorN12
namespace Go.Proofs.YtjihapnplfdmmaaDoor
open Go.RowKit
set_option linter.unusedVariables false
namespace NC
open L
open Z (Nz Tz cmpv)
/-- limbs of the call's own in normal form -/
structure ON (w : World) (base : Nat) (v : Value) (X : List Int) (z : Int) : Prop where
  o : OwnU w base v X
  l : Lim X
  n : Nz X
  v : lv X = z
theorem ON.drewN {w : World} {base : Nat} {v : Value} {X : List Int} {z : Int} (h : ON w base v X z) (k : Nat) : ON (w.drewN k) base v X z := ⟨Own.drewN h.o k, h.l, h.n, h.v⟩
theorem ON.nil (w : World) (base : Nat) : ON w base (.slice none 0 0) [] 0 := ⟨Own.nil _ _ _ _, Lim.nil, (by intro h; exact absurd rfl h), rfl⟩
theorem ON.len {w : World} {base : Nat} {v : Value} {X : List Int} {z : Int} (h : ON w base v X z) (hz : z < 4294967296 ^ 500) : X.length ≤ 500 := len_le h.l h.n (by rw [h.v]; exact hz)
theorem ON.some_ {w : World} {base : Nat} {A : Option Addr} {n c : Nat} {X : List Int} {z : Int} (h : ON w base (.slice A n c) X z) (hz : 0 < z) : ∃ g, A = some ⟨g, 0, none⟩ ∧ n = X.length ∧ X ≠ [] ∧ base ≤ g ∧ g < w.heap.size := by
  have hne : X ≠ [] := by intro e; have := h.v; rw [e] at this; simp [lv] at this; omega
  rcases OwnU.form h.o with ⟨_, e⟩ | ⟨g, c', e, hg, hgs, _⟩
  · exact absurd e hne
  · injection e with e1 e2 e3
    exact ⟨g, e1, e2, hne, hg, hgs⟩
theorem lv_one {L : List Int} (h : L.length = 1) : lv L = L.getD 0 0 := by
  obtain ⟨d, rfl⟩ := List.length_eq_one_iff.1 h
  simp [lv]
theorem root_bds {A R : Int} {K k : Nat} {tw re : Int} (h : SqI A K k R tw re) (hA : 0 ≤ A) (hs : A < 4294967296 ^ 400) : tw < 4294967296 ^ 401 ∧ re < 4294967296 ^ 401 ∧ tw * 2 + 1 < 4294967296 ^ 500 ∧ re * 4 + 3 < 4294967296 ^ 500 := by
  have h1 := h.eT
  have h2 := h.eR
  have h3 := h.le
  have h4 := h.re0
  have h0 := h.r0
  have h5 : A / 4 ^ k ≤ A := Int.ediv_le_self _ hA
  have h6 : R ≤ R * R ∨ R = 0 := by
    rcases Int.lt_or_eq_of_le h0 with h | h
    · left
      have : R * 1 ≤ R * R := Int.mul_le_mul_of_nonneg_left (by omega) h0
      omega
    · right; exact h.symm
  have e1 : (4294967296 : Int) ^ 401 = 4294967296 ^ 400 * 4294967296 := Int.pow_succ _ _
  have e2 : (4294967296 : Int) ^ 402 = 4294967296 ^ 401 * 4294967296 := Int.pow_succ _ _
  have e3 : (4294967296 : Int) ^ 402 ≤ 4294967296 ^ 500 := pow_mono (by decide)
  have e4 := pow_pos 400
  generalize (4294967296 : Int) ^ 500 = c1 at *
  generalize (4294967296 : Int) ^ 402 = c2 at *
  generalize (4294967296 : Int) ^ 401 = c3 at *
  generalize (4294967296 : Int) ^ 400 = c4 at *
  have h7 : R * R ≤ A := by omega
  refine ⟨?_, ?_, ?_, ?_⟩ <;> rcases h6 with h6 | h6 <;> (try subst h6) <;> omega
/-- a root and what is left -/
def RetSq (w : World) (A : Int) (e : Ending) (w' : World) : Prop :=
  ∃ Ar nr cr As ns cs R re, e = .returned (.tuple #[.slice Ar nr cr, .slice As ns cs]) ∧ NV w' (.slice Ar nr cr) R ∧ NV w' (.slice As ns cs) re ∧ Hid (R * R + re = A ∧ 0 ≤ re ∧ re ≤ 2 * R ∧ 0 ≤ R) ∧ Below w.heap.size w w'
set_option maxRecDepth 100000 in
set_option maxHeartbeats 4000000 in
theorem squareRoot_c (v : Value) (a : List Int) (n : Nat) (w : World) (hs : Sl .u32 w v a) (La : Lim a) (hl : a.length ≤ 400) (h1 : lv a < 2 ^ n) (h2 : n = 0 ∨ 2 ^ (n - 1) ≤ lv a) (hn : n ≤ 12800) :
    Calls Tryd.prog 37 #[v, .int .i64 n] w (RetSq w (lv a)) := by
  obtain ⟨A, c, rfl, hc⟩ := hs.form
  obtain ⟨K, hK⟩ : ∃ K, K = (n + 1) / 2 := ⟨_, rfl⟩
  have hA0 := lv_nonneg La
  have hA4 : lv a < 4 ^ K := by
    refine Int.lt_of_lt_of_le h1 ?_
    rw [show (4 : Int) = 2 ^ 2 by decide, ← Int.pow_mul]
    exact_mod_cast Nat.pow_le_pow_right (by decide : 0 < 2) (show n ≤ 2 * K by omega)
  have hA5 : 0 < K → 4 ^ (K - 1) ≤ lv a := fun h0 => by
    rcases h2 with h2 | h2
    · omega
    · refine Int.le_trans ?_ h2
      rw [show (4 : Int) = 2 ^ 2 by decide, ← Int.pow_mul]
      exact_mod_cast Nat.pow_le_pow_right (by decide : 0 < 2) (show 2 * (K - 1) ≤ n - 1 by omega)
  have hnl : n ≤ 32 * a.length := by
    rcases h2 with h2 | h2
    · omega
    · have h3 := lv_lt La
      rw [pow_two] at h3
      have h4 : (2 : Int) ^ (n - 1) < 2 ^ (32 * a.length) := by omega
      have h5 : (2 : Nat) ^ (n - 1) < 2 ^ (32 * a.length) := by exact_mod_cast h4
      have := (Nat.pow_lt_pow_iff_right (by decide : 1 < 2)).1 h5
      omega
  have hA9 : lv a < 4294967296 ^ 400 := Int.lt_of_lt_of_le (lv_lt La) (pow_mono hl)
  have HS := Lib.hid hs
  have LA := Lib.hid La
  have H5 := Lib.hid hA5
  have BD := Lib.hid (fun R tw re k (h : SqI (lv a) K k R tw re) => root_bds h hA0 hA9)
  have PE := Lib.hid (fun i (h : i / 16 < a.length) => pair_eq La i h)
  have I0 := Lib.hid (SqI.start hA0 hA4)
  obtain ⟨x, ex⟩ : ∃ x, a.length = x := ⟨_, rfl⟩
  rw [ex] at hc HS PE hnl ⊢
  have EX := Lib.hid ex
  have hK1 : ((n : Int) + 1) / 2 = K := by omega
  have hK2 : K ≤ 6400 := by omega
  have hK3 : 2 * K ≤ n + 1 := by omega
  generalize lv a = Av at *
  clear hs La hl h1 h2 hA0 hA4 hA5 hA9 ex hK
  go_enter Tryd.func37, Tryd.ntmps37
  go_wp2
  go_loopw [8, 6, 7] (fun s8 s6 s7 wr => ∃ (k : Nat) (R tw re : Int) (At : Option Addr) (nt ct : Nat) (T : List Int) (Ar : Option Addr) (nr cr : Nat) (S : List Int), s8 = .int .i64 ((k : Int) - 1) ∧ k ≤ K ∧ s6 = .slice At nt ct ∧ s7 = .slice Ar nr cr ∧ Hid (SqI Av K k R tw re) ∧
      Hid (ON wr w.heap.size (.slice At nt ct) T tw) ∧ Hid (ON wr w.heap.size (.slice Ar nr cr) S re) ∧ Hid (Sep (.slice At nt ct) (.slice Ar nr cr)) ∧ Hid (Below w.heap.size w wr)) (fun s8 _ _ _ => (intOf s8 + 1).toNat)
  case atStart => exact ⟨K, 0, 0, 0, none, 0, 0, [], none, 0, 0, [], rfl, Nat.le_refl _, rfl, rfl, I0, ON.nil _ _, ON.nil _ _, (by intro g h; cases h), Below.refl _ _⟩
  case round =>
    obtain ⟨k, R, tw, re, At, nt, ct, T, Ar, nr, cr, S, rfl, hk, rfl, rfl, hI, hT, hS, hSep, hB⟩ := hrel
    clear hK1
    by_cases hk0 : 0 < k
    · obtain ⟨i, rfl⟩ : ∃ i, k = i + 1 := ⟨k - 1, by omega⟩
      have ik : ((i + 1 : Nat) : Int) - 1 = i := by omega
      have hix : i / 16 < x := by omega
      have hpe := PE.out i hix
      obtain ⟨j, hj⟩ : ∃ j, j = i / 16 := ⟨_, rfl⟩
      rw [← hj] at hpe hix
      obtain ⟨adx, cx, exx, _, _, hcx⟩ := (HS.out.below hB.out).at_ j (by rw [EX.out]; exact hix)
      injection exx with ex1 ex2 ex3
      subst ex1
      have bq := LA.out.at_ j
      obtain ⟨q, hq⟩ : ∃ q, a.getD j 0 = q := ⟨_, rfl⟩
      rw [hq] at hcx bq hpe
      obtain ⟨s, hs⟩ : ∃ s, s = i % 16 * 2 := ⟨_, rfl⟩
      rw [← hs] at hpe
      have hs1 : (i : Int) % 16 * 2 = s := by omega
      have hi1 : (i : Int) / 16 = (j : Int) := by omega
      have hi2 : (j : Int) < x := by omega
      have hs31 : s ≤ 31 := by omega
      have hp := two_pos s
      have q0 : 0 ≤ q / 2 ^ s := Int.ediv_nonneg bq.1 (Int.le_of_lt hp)
      have q1 : q / 2 ^ s < 4294967296 := Int.lt_of_le_of_lt (Int.ediv_le_self _ bq.1) bq.2
      have ha3 : bits .and .u32 (q / 2 ^ s) 3 = q / 2 ^ s % 4 := and3 _ q0 q1
      obtain ⟨p, hpp⟩ : ∃ p, q / 2 ^ s % 4 = p := ⟨_, rfl⟩
      rw [hpp] at ha3 hpe
      have p0 : 0 ≤ p ∧ p < 4 := by omega
      obtain ⟨b1, b2, b3, b4⟩ := BD.out _ _ _ _ hI.out
      have hTl := hT.out.len (by omega)
      have hSl := hS.out.len (by omega)
      clear ex2 ex3 hq hs hpp hj
      have wb := hB.out.size
      have P1 := push_c w.heap.size (.slice Ar nr cr) S 2 p wr hS.out.o hS.out.l hS.out.n (by decide) p0.1 (by simpa using p0.2) (by omega) wb
      rw [show lv S * 2 ^ 2 + p = re * 4 + p by rw [hS.out.v, show (2 : Int) ^ 2 = 4 by decide]] at P1
      have P1 : Calls Tryd.prog 56 #[.slice Ar nr cr, .int .i64 2, .int .u32 p] wr (RetPu wr w.heap.size (.slice Ar nr cr) (re * 4 + p)) := P1
      have P1 := Lib.hid P1
      have P2 : Hid (∀ W, ON W w.heap.size (.slice At nt ct) T tw → w.heap.size ≤ W.heap.size → Calls Tryd.prog 56 #[.slice At nt ct, .int .i64 1, .int .u32 1] W (RetPu W w.heap.size (.slice At nt ct) (tw * 2 + 1))) := fun W h h0 => by
        have P2 := push_c w.heap.size (.slice At nt ct) T 1 1 W h.o h.l h.n (by decide) (by decide) (by decide) (by omega) h0
        rw [show lv T * 2 ^ 1 + 1 = tw * 2 + 1 by rw [h.v, show (2 : Int) ^ 1 = 2 by decide]] at P2
        exact P2
      have KT : Hid (∀ W A1 n1 c1 X1, wr.grownBy W (Value.slice Ar nr cr).ownBlock → ON W w.heap.size (.slice A1 n1 c1) X1 (re * 4 + p) → ((Value.slice A1 n1 c1).ownBlock = (Value.slice Ar nr cr).ownBlock ∨ ∃ g, (Value.slice A1 n1 c1).ownBlock = some g ∧ wr.heap.size ≤ g) →
          ON W w.heap.size (.slice At nt ct) T tw ∧ Sep (.slice At nt ct) (.slice A1 n1 c1) ∧ Below w.heap.size w W ∧ w.heap.size ≤ W.heap.size) := fun W A1 n1 c1 X1 h1 h2 h3 => by
        have hb := hB.out.grown h1 wb fun k hk => (Own.lt hS.out.o k hk).1
        exact ⟨⟨keepO hT.out.o h1 hSep.out, hT.out.l, hT.out.n, hT.out.v⟩, sep_after hSep.out hT.out.o h3, hb, hb.size⟩
      have KS : Hid (∀ W1 W A1 n1 c1 X1 A2 n2 c2 X2, W1.grownBy W (Value.slice At nt ct).ownBlock → ON W1 w.heap.size (.slice At nt ct) T tw → ON W1 w.heap.size (.slice A1 n1 c1) X1 (re * 4 + p) → Sep (.slice At nt ct) (.slice A1 n1 c1) → Below w.heap.size w W1 → ON W w.heap.size (.slice A2 n2 c2) X2 (tw * 2 + 1) →
          ((Value.slice A2 n2 c2).ownBlock = (Value.slice At nt ct).ownBlock ∨ ∃ g, (Value.slice A2 n2 c2).ownBlock = some g ∧ W1.heap.size ≤ g) →
          ON W w.heap.size (.slice A1 n1 c1) X1 (re * 4 + p) ∧ Sep (.slice A1 n1 c1) (.slice A2 n2 c2) ∧ Below w.heap.size w W ∧ X2.length ≤ 500 ∧ X1.length ≤ 500) := fun W1 W A1 n1 c1 X1 A2 n2 c2 X2 h1 h0 h2 h3 h4 h5 h6 => by
        have hb := h4.grown h1 h4.size fun k hk => (Own.lt h0.o k hk).1
        exact ⟨⟨keepO h2.o h1 h3.symm, h2.l, h2.n, h2.v⟩, sep_after h3.symm h2.o h6, hb, h5.len b3, h2.len (by omega)⟩
      have twp : 0 < tw * 2 + 1 := by have := hI.out.eT; have := hI.out.r0; omega
      have tw4 : tw * 2 + 1 = 4 * R + 1 := by have := hI.out.eT; omega
      have HTW := Lib.hid tw4
      have CPR : Hid (∀ W A1 n1 c1 X1 A2 n2 c2 X2, ON W w.heap.size (.slice A1 n1 c1) X1 (re * 4 + p) → ON W w.heap.size (.slice A2 n2 c2) X2 (tw * 2 + 1) → X2.length ≤ 500 → X1.length ≤ 500 → Calls Tryd.prog 52 #[.slice A1 n1 c1, .slice A2 n2 c2] W (RetQ W (.int .i64 (cmpv (re * 4 + p) (tw * 2 + 1))))) := fun W A1 n1 c1 X1 A2 n2 c2 X2 h1 h2 h3 h4 => by
        have := compare_c _ _ X1 X2 W (Own.sl h1.o) (Own.sl h2.o) h1.l h2.l h1.n h2.n (by omega) (by omega)
        rwa [h1.v, h2.v] at this
      simp only [ik]
      clear ik
      by_cases hlt : re * 4 + p < tw * 2 + 1
      · have HI2 := Lib.hid (hI.out.less (H5.out (by omega)) hpe hlt)
        have hcm := Z.cmpv_lt hlt
        rw [hcm] at CPR
        clear hcm hlt hpe tw4 b1 b2 b3 b4 hTl hSl hI hT hS hSep hB
        go_wp2_with (first
          | (go_at_call 56; (with_reducible refine (P1.out).mono ?_); rintro e w1 ⟨A1, n1, c1, X1, rfl, h1, hg1, hat1⟩; have S1 : ON w1 w.heap.size (.slice A1 n1 c1) X1 (re * 4 + p) := ⟨h1.out.1, h1.out.2.1, h1.out.2.2.1, h1.out.2.2.2⟩; obtain ⟨T1, Sep1, B1, wb1⟩ := KT.out w1 A1 n1 c1 X1 hg1 S1 hat1; clear P1)
          | (go_at_call 56; (with_reducible refine (P2.out w1 T1 wb1).mono ?_); rintro e w2 ⟨A2, n2, c2, X2, rfl, h2, hg2, hat2⟩; have T2 : ON w2 w.heap.size (.slice A2 n2 c2) X2 (tw * 2 + 1) := ⟨h2.out.1, h2.out.2.1, h2.out.2.2.1, h2.out.2.2.2⟩; obtain ⟨S2, Sep2, B2, l2, l1⟩ := KS.out w1 w2 A1 n1 c1 X1 A2 n2 c2 X2 hg2 T1 S1 Sep1 B1 T2 hat2; obtain ⟨g2, rfl, hn2, hne2, hgb2, hgs2⟩ := ON.some_ T2 twp; have hcl := OwnU.cell T2.o 0 (List.length_pos_iff.2 hne2); have hfr := OwnU.frozen T2.o 0; have hx4 := low4 hne2 (T2.v.trans HTW.out); have bx := T2.l.at_ 0; have HN2 := Lib.hid hn2; have HNE2 := Lib.hid hne2; have n2p : 1 ≤ n2 := (by rw [hn2]; exact List.length_pos_iff.2 hne2); clear hn2 hne2; obtain ⟨x2, hx2⟩ : ∃ x2, X2.getD 0 0 = x2 := ⟨_, rfl⟩; rw [hx2] at hcl hx4 bx; have HX2 := Lib.hid hx2; clear hx2; have CP := CPR.out w2 A1 n1 c1 X1 _ n2 c2 X2 S2 T2 l2 l1; have CP := Lib.hid CP)
          | (go_at_call 52; (with_reducible refine (CP.out).mono ?_); rintro e w3 ⟨rfl, kq, rfl⟩))
        have T3 := T2.drewN kq
        have S3 := S2.drewN kq
        go_roundw
        case rel =>
          refine ⟨i, 2 * R, tw * 2, re * 4 + p, _, n2, c2, X2.set 0 (x2 - 1), A1, n1, c1, X1, by simp, by omega, rfl, rfl, HI2.out.1, ⟨OwnU.set_ T3.o 0 _, T3.l.set 0 (by omega) (by omega), nz_set0 T3.n ?_, ?_⟩, ⟨keepS S3.o ?_, S3.l, S3.n, S3.v⟩, Sep2.symm, ?_⟩
          · by_cases h1 : 1 < X2.length
            · exact .inr h1
            · left
              have e := lv_one (L := X2) (by have := List.length_pos_iff.2 HNE2.out; omega)
              have := T3.v
              have := HTW.out
              have := HI2.out.2
              have := HX2.out
              omega
          · rw [lv_set0 HNE2.out, HX2.out, T3.v]; omega
          · intro h; exact Sep2 g2 h rfl
          · exact (show Below w.heap.size w (w2.drewN kq) from ⟨B2.os, B2.tape, B2.output, B2.size, B2.block⟩).setCell hgb2 _
        case measure => simp [intOf]
      · have HI2 := Lib.hid (hI.out.more hpe (Int.not_lt.1 hlt))
        have q0 := Z.cmpv_ge0 hlt
        have rp : 0 < re * 4 + p := by omega
        have HLE := Lib.hid (Int.not_lt.1 hlt)
        generalize cmpv (re * 4 + p) (tw * 2 + 1) = cq at CPR q0
        have ec : decide (cq < 0) = false := by simp; omega
        have SF : Hid (∀ W g1 n1 c1 X1 A2 n2 c2 X2, ON W w.heap.size (.slice (some ⟨g1, 0, none⟩) n1 c1) X1 (re * 4 + p) → ON W w.heap.size (.slice A2 n2 c2) X2 (tw * 2 + 1) → Sep (.slice (some ⟨g1, 0, none⟩) n1 c1) (.slice A2 n2 c2) → X1.length ≤ 500 → Calls Tryd.prog 54 #[.slice (some ⟨g1, 0, none⟩) n1 c1, .slice A2 n2 c2] W (RetOw W w.heap.size g1 n1 c1 (re * 4 + p - (tw * 2 + 1)))) := fun W g1 n1 c1 X1 A2 n2 c2 X2 h1 h2 h3 h4 => by
          have := subFrom_own w.heap.size g1 n1 c1 X1 X2 (.slice A2 n2 c2) W h1.o (SlA.of (Own.sl h2.o) (by
            intro ad n' c' e h0 h5
            injection e with e1
            subst e1
            exact h3 g1 rfl (by rw [← h5]; rfl))) h1.l h2.l h2.n (by rw [h1.v, h2.v]; exact HLE.out) (by omega)
          rwa [h1.v, h2.v] at this
        clear hlt hpe tw4 b1 b2 b3 b4 hTl hSl hI hT hS hSep hB q0
        go_wp2_with (first
          | (go_at_call 56; (with_reducible refine (P1.out).mono ?_); rintro e w1 ⟨A1, n1, c1, X1, rfl, h1, hg1, hat1⟩; have S1 : ON w1 w.heap.size (.slice A1 n1 c1) X1 (re * 4 + p) := ⟨h1.out.1, h1.out.2.1, h1.out.2.2.1, h1.out.2.2.2⟩; obtain ⟨T1, Sep1, B1, wb1⟩ := KT.out w1 A1 n1 c1 X1 hg1 S1 hat1; clear P1)
          | (go_at_call 56; (with_reducible refine (P2.out w1 T1 wb1).mono ?_); rintro e w2 ⟨A2, n2, c2, X2, rfl, h2, hg2, hat2⟩; have T2 : ON w2 w.heap.size (.slice A2 n2 c2) X2 (tw * 2 + 1) := ⟨h2.out.1, h2.out.2.1, h2.out.2.2.1, h2.out.2.2.2⟩; obtain ⟨S2, Sep2, B2, l2, l1⟩ := KS.out w1 w2 A1 n1 c1 X1 A2 n2 c2 X2 hg2 T1 S1 Sep1 B1 T2 hat2; obtain ⟨g2, rfl, hn2, hne2, hgb2, hgs2⟩ := ON.some_ T2 twp; have hcl := OwnU.cell T2.o 0 (List.length_pos_iff.2 hne2); have hfr := OwnU.frozen T2.o 0; have hx4 := low4 hne2 (T2.v.trans HTW.out); have bx := T2.l.at_ 0; have HN2 := Lib.hid hn2; have HNE2 := Lib.hid hne2; have n2p : 1 ≤ n2 := (by rw [hn2]; exact List.length_pos_iff.2 hne2); clear hn2 hne2; obtain ⟨x2, hx2⟩ : ∃ x2, X2.getD 0 0 = x2 := ⟨_, rfl⟩; rw [hx2] at hcl hx4 bx; have HX2 := Lib.hid hx2; clear hx2; have CP := CPR.out w2 A1 n1 c1 X1 _ n2 c2 X2 S2 T2 l2 l1; have CP := Lib.hid CP)
          | (go_at_call 52; (with_reducible refine (CP.out).mono ?_); rintro e w3 ⟨rfl, kq, rfl⟩; obtain ⟨g1, rfl, hn1, hne1, hgb1, hgs1⟩ := ON.some_ S2 rp; have SF1 := Lib.hid (SF.out (w2.drewN kq) g1 n1 c1 X1 _ n2 c2 X2 (S2.drewN kq) (T2.drewN kq) Sep2 l1); clear hn1 hne1)
          | (go_at_call 54; (with_reducible refine (SF1.out).mono ?_); rintro e w4 ⟨M4, rfl, hg4, h4⟩; have TR4 := Lib.hid (trim_c (some ⟨g1, 0, none⟩) n1 c1 M4 w4 (Own.sl h4.out.1) (by rw [h4.out.2.1]; have := (Own.sl S2.o).len_.1; omega)); have T4 : OwnU w4 w.heap.size (.slice (some ⟨g2, 0, none⟩) n2 c2) X2 := keepO (u := .slice (some ⟨g1, 0, none⟩) n1 c1) (T2.drewN kq).o hg4 Sep2.symm; have hcl4 := OwnU.cell T4 0 (by have := HN2.out; omega); rw [HX2.out] at hcl4; have hfr4 := OwnU.frozen T4 0; clear hcl hfr)
          | (go_at_call 39; (with_reducible refine (TR4.out).mono ?_); rintro e w5 ⟨m5, rfl, hm5, hz5, hv5, rfl⟩))
        have hSr := OwnU.take h4.out.1 (show m5 ≤ n1 by have := h4.out.2.1; omega) (by intro h; cases h)
        refine ⟨⟨i, 2 * R + 1, tw * 2 + 1 + 1, re * 4 + p - (tw * 2 + 1), _, n2, c2, X2.set 0 (x2 + 1), _, m5, c1, M4.take m5, by simp, by omega, rfl, rfl, HI2.out, ⟨OwnU.set_ T4 0 _, T2.l.set 0 (by omega) (by omega), nz_set0 T2.n (.inl (by omega)), ?_⟩, ⟨keepS hSr ?_, h4.out.2.2.1.take m5, hz5, hv5.trans h4.out.2.2.2⟩, ?_, ?_⟩, by simp only [intOf]; omega⟩
        · rw [lv_set0 HNE2.out, HX2.out, T2.v]; omega
        · intro h; exact Sep2 g1 rfl h.symm
        · intro g h1 h2; exact Sep2 g h2 h1
        · exact ((show Below w.heap.size w (w2.drewN kq) from ⟨B2.os, B2.tape, B2.output, B2.size, B2.block⟩).grown hg4 (by exact B2.size) (fun k hk => by injection hk with hk; omega)).setCell hgb2 _
    · obtain rfl : k = 0 := by omega
      have hD := Lib.hid hI.out.done
      have hTl := hT.out.len (by have := (BD.out _ _ _ _ hI.out).2.2.1; have := hI.out.eT; have := hI.out.r0; omega)
      have SD := shiftDown_c _ T 1 wr (Own.sl hT.out.o) hT.out.l (by omega) (by decide)
      rw [hT.out.v, hI.out.eT, show (2 : Int) ^ 1 = 2 by decide, show 2 * R / 2 = R by omega] at SD
      have SD : Calls Tryd.prog 34 #[.slice At nt ct, .int .i64 1] wr (RetV wr R) := SD
      have SD := Lib.hid SD
      go_wp2_with (first | (go_at_call 34; (with_reducible refine (SD.out).mono ?_); rintro e w5 ⟨A5, n5, c5, rfl, hV5, hb5⟩))
      go_ret2
      exact ⟨A5, n5, c5, Ar, nr, cr, R, re, rfl, hV5, NV.below ⟨S, Own.sl hS.out.o, hS.out.l, hS.out.n, hS.out.v⟩ hb5, hD, hB.out.trans (hb5.mono hB.out.size)⟩
end NC
end Go.Proofs.YtjihapnplfdmmaaDoor
