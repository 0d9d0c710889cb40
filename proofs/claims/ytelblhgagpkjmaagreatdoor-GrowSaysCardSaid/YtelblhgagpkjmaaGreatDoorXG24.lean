/-
  Package grow: Add (with a closure that appends what is not 0), Join.
-/
import Derived.Test.YtelblhgagpkjmaaGreatDoorXG23
import Derived.Test.YtelblhgagpkjmaaGreatDoorA4
namespace Go.Proofs.YtelblhgagpkjmaaGreatDoor
set_option linter.unusedVariables false
set_option linter.unusedSimpArgs false
open Go.RowKit
set_option linter.unusedVariables false
set_option linter.unusedSimpArgs false
namespace XC
open L NC NK DC RC SC PC QC IC
open Z (cmpv)
theorem drop_cons_g {L : List Int} {k : Nat} (h : k < L.length) : L.drop k = L.getD k 0 :: L.drop (k + 1) := by
  rw [List.drop_eq_getElem_cons h, List.getD_eq_getElem?_getD, List.getElem?_eq_getElem h]; rfl
theorem gJe_c {O : List Int} {y : Int} {t : List Int} : gJe O (y :: t) = if (gAd O y).1 = 0 then gJe (gAd O y).2 t else ((gAd O y).1, []) := by rw [gJe]
theorem T2_bdg {x y : Int} (hx : 0 ≤ x ∧ x ≤ 18446744073709551615) (hy : 0 ≤ y ∧ y ≤ 18446744073709551615) : (0 ≤ (T2 x y).1 ∧ (T2 x y).1 ≤ 18446744073709551615) ∧ (0 ≤ (T2 x y).2.1 ∧ (T2 x y).2.1 ≤ 18446744073709551615) := by
  have bs := ad_bd hx hy
  have ba := sb_bd bs hy
  have bb := sb_bd bs ba
  have bc := sb_bd hx ba
  have bd := sb_bd hy bb
  have br := ad_bd bc bd
  unfold T2
  split
  · exact ⟨⟨by decide, by decide⟩, by decide, by decide⟩
  · split
    · exact ⟨⟨by decide, by decide⟩, by decide, by decide⟩
    · exact ⟨bs, br⟩
theorem AG_cons_g {q y : Int} {t : List Int} : AG q (y :: t) = if (T2 q y).2.2 ≠ 0 then none else (AG (T2 q y).1 t).map fun h => if F.cls (T2 q y).2.1 = 1 then h else (T2 q y).2.1 :: h := by rw [AG]
theorem map_map_g {o : Option (List Int)} {O : List Int} {f : List Int → List Int} {O' : List Int} (h : ∀ r, O ++ f r = O' ++ r) : (o.map f).map (fun r => O ++ r) = o.map fun r => O' ++ r := by
  cases o with
  | none => rfl
  | some r => simp [h]
/-- the cell of the list that is kept, and the list -/
structure KL (w W : World) (g : Nat) (A : Option Addr) (n c : Nat) (O : List Int) : Prop where
  k : Blk W g 22 #[.slice A n c]
  o : AC.OwnQ W (g + 1) (.slice A n c) O
  b : Below w.heap.size w W
  g : w.heap.size ≤ g
theorem KL.below {w W W' : World} {g A n c O} (h : KL w W g A n c O) (hb : Below W.heap.size W W') : KL w W' g A n c O := ⟨h.k.below hb h.k.lt, Own.below' h.o hb, h.b.trans (hb.mono h.b.size), h.g⟩
theorem keep_no (g : Nat) (r : Int) (w : World) (hr : 0 ≤ r ∧ r ≤ 18446744073709551615) (hz : F.cls r = 1) : Calls Tryz.prog 21 #[.int .u64 r, .pointer (some ⟨g, 0, none⟩)] w fun e w' => e = .returned (.tuple #[]) ∧ Below w.heap.size w w' := by
  have KC := Lib.hid (isZero_g r w hr)
  rw [decide_eq_true hz] at KC
  clear hz hr
  go_enter Tryz.func21, Tryz.ntmps21
  go_wp2_with (go_at_call 22; (with_reducible refine (KC.out).mono ?_); rintro e w1 ⟨rfl, hb⟩)
  go_end0
  exact ⟨rfl, hb⟩
theorem keep_yes {w0 : World} (g : Nat) (A : Option Addr) (n c : Nat) (O : List Int) (r : Int) (w : World) (h : KL w0 w g A n c O) (hl : O.length ≤ 1000) (hr : 0 ≤ r ∧ r ≤ 18446744073709551615) (hz : F.cls r ≠ 1) :
    Calls Tryz.prog 21 #[.int .u64 r, .pointer (some ⟨g, 0, none⟩)] w fun e w' => e = .returned (.tuple #[]) ∧ ∃ A' n' c', KL w0 w' g A' n' c' (O ++ [r]) := by
  have KC := Lib.hid (isZero_g r w hr)
  rw [decide_eq_false hz] at KC
  have H := Lib.hid h
  clear h hz hr
  go_enter Tryz.func21, Tryz.ntmps21
  go_wp2_with (first
    | (go_at_call 22; (with_reducible refine (KC.out).mono ?_); rintro e w1 ⟨rfl, hb⟩; have H := Lib.hid (H.out.below hb); have p0 := H.out.k.at_ 0 rfl; clear hb)
    | (at_builtin; refine AC.appq AC.el_u64 rfl (.tmp 6) (.tmp 8) rfl rfl H.out.o r rfl (by omega) (H.out.k.lt) ?_; intro A2 n2 c2 w2 hn2 hO2 hg2 hat2; have K2 := H.out.k.grown hg2 (fun e => by have := (Own.lt H.out.o _ e.symm).1; omega); have t0 := K2.at_ 0 rfl; have f0 := K2.frozen 0; have KK := Lib.hid (⟨K2.set_ 0 (.slice A2 n2 c2), Own.low hO2 (by simp) _, (H.out.b.grown hg2 H.out.b.size (fun k hk => Nat.le_trans (Nat.le_succ_of_le H.out.g) (Own.lt H.out.o k hk).1)).setCell H.out.g (.slice A2 n2 c2), H.out.g⟩ : KL w0 (w2.setCell ⟨g, 0, none⟩ (.slice A2 n2 c2)) g A2 n2 c2 (O ++ [r])); clear hO2 hg2 hat2 K2))
  go_end0
  exact ⟨rfl, _, _, _, KK.out⟩
set_option maxRecDepth 100000 in
set_option maxHeartbeats 16000000 in
theorem Add_g (A : Option Addr) (n c : Nat) (L : List Int) (x : Int) (w : World) (hs : Sl .u64 w (.slice A n c) L) (hu : u64s L) (hl : L.length ≤ 9223372036854775807) (hx : 0 ≤ x ∧ x ≤ 18446744073709551615) (hT : TabD w) :
    Calls Tryz.prog 6 #[.slice A n c, .int .u64 x] w (RetL w (gAd L x).1 (gAd L x).2) := by
  have HT : Hid (∀ W : World, Below w.heap.size w W → TabD W) := fun W hW => hT.below hW
  have D := Lib.hid (Below.refl w.heap.size w)
  have CA : Hid (∀ W : World, Below w.heap.size w W → Calls Tryz.prog 9 #[.slice A n c] W (DC.RetB W (.int .i64 (gCk L)))) := fun W hW => Check_g A n c L W (hs.below hW) hu hl (HT.out W hW)
  have HV : Hid (∀ W : World, Below w.heap.size w W → Calls Tryz.prog 20 #[.int .u64 x] W (DC.RetB W (.bool (decide (F.exq x = 2047))))) := fun W hW => lacksValue_g x W hx (HT.out W hW)
  by_cases kA : gCk L = 0
  · rw [kA] at CA
    by_cases hv : F.exq x = 2047
    · have e : gAd L x = (4, []) := by unfold gAd; rw [if_pos kA, if_pos hv]
      rw [e]
      rw [decide_eq_true hv] at HV
      clear e kA hv hs hu hl hx hT
      go_enter Tryz.func6, Tryz.ntmps6
      go_wp2_with (first
        | (go_at_call 9; (with_reducible refine (CA.out _ D.out).mono ?_); rintro e w1 ⟨rfl, hb⟩; have D := Lib.hid (D.out.trans (hb.mono D.out.size)); clear hb)
        | (go_at_call 20; (with_reducible refine (HV.out _ D.out).mono ?_); rintro e w2 ⟨rfl, hb⟩; have D := Lib.hid (D.out.trans (hb.mono D.out.size)); clear hb))
      go_ret2
      exact ⟨_, _, _, rfl, rfl, Sl.nil _ _ _ _, D.out⟩
    · rw [decide_eq_false hv] at HV
      have n60 : n ≤ 60 := by have := (gCk_0.1 kA).1; have := sl_len hs; omega
      have HN : Hid (n = L.length) := sl_len hs
      have SA : Hid (∀ W : World, Below w.heap.size w W → Sl .u64 W (.slice A n c) L) := fun W h => hs.below h
      have HU := Lib.hid hu
      have TS : Hid (∀ (W : World) (q y : Int), Below w.heap.size w W → (0 ≤ q ∧ q ≤ 18446744073709551615) → (0 ≤ y ∧ y ≤ 18446744073709551615) → Calls Tryz.prog 23 #[.int .u64 q, .int .u64 y] W (DC.RetB W (T2v (T2 q y)))) := fun W q y hW h1 h2 => TwoSum_c q y W h1 h2 (HT.out W hW)
      have er : gAd L x = match AG x L with
        | none => (2, [])
        | some H => (0, H) := by unfold gAd; rw [if_pos kA, if_neg hv]; cases AG x L <;> rfl
      obtain ⟨t, ht⟩ : ∃ t, t = gAd L x := ⟨_, rfl⟩
      rw [← ht]
      rw [← ht] at er
      obtain ⟨R, hR⟩ : ∃ R, R = AG x L := ⟨_, rfl⟩
      rw [← hR] at er
      have HR := Lib.hid hR
      have ER := Lib.hid er
      have HX := Lib.hid hx
      clear kA hv hs hu hl hx hT ht er hR
      go_enter Tryz.func6, Tryz.ntmps6
      go_wp2_with (first
        | (go_at_call 9; (with_reducible refine (CA.out _ D.out).mono ?_); rintro e w1 ⟨rfl, hb⟩; have D := Lib.hid (D.out.trans (hb.mono D.out.size)); clear hb CA)
        | (go_at_call 20; (with_reducible refine (HV.out _ D.out).mono ?_); rintro e w2 ⟨rfl, hb⟩; have D := Lib.hid (D.out.trans (hb.mono D.out.size)); clear hb HV))
      have N0 := Blk.new w2 22 #[.slice none 0 0]
      have D0 := D.out.alloc D.out.size (.cells #[.slice none 0 0] 22)
      have hg := D.out.size
      obtain ⟨W0, hW0⟩ : ∃ W0, w2.alloc (.cells #[.slice none 0 0] 22) = W0 := ⟨_, rfl⟩
      obtain ⟨g, hgg⟩ : ∃ g, g = w2.heap.size := ⟨_, rfl⟩
      rw [hW0] at N0 D0 ⊢
      rw [← hgg] at N0 hg ⊢
      have E0 : Hid (KL w W0 g none 0 0 []) := ⟨N0, Own.nil _ _ _ _, D0, hg⟩
      clear N0 D0 hW0 hgg hg D
      go_loopw [26, 9] (fun iv qv wr => ∃ (k : Nat) (A1 : Option Addr) (n1 c1 : Nat) (O : List Int) (q : Int), iv = .int .i64 k ∧ k ≤ n ∧ qv = .int .u64 q ∧ Hid (0 ≤ q ∧ q ≤ 18446744073709551615) ∧ Hid (R = (AG q (L.drop k)).map fun h => O ++ h) ∧ Hid (O.length ≤ k) ∧ Hid (KL w wr g A1 n1 c1 O)) (fun iv _ _ => n - (intOf iv).toNat)
      case atStart => exact ⟨0, none, 0, 0, [], x, rfl, by omega, rfl, HX.out, by show _ = _; rw [HR.out]; simp, by show _ ≤ _; simp, E0.out⟩
      case round =>
        obtain ⟨k, A1, n1, c1, O, q, rfl, hk, rfl, fq, hR, hO, hK⟩ := hrel
        by_cases hkn : k < n
        · have hkL : k < L.length := by rw [← HN.out]; exact hkn
          obtain ⟨ad', c', e, hc', hb, hcell⟩ := (SA.out _ hK.out.b).at_ k hkL
          injection e with e1 e2 e3
          subst e1
          clear e2 e3 hc' c' hb
          have hd := drop_cons_g hkL
          obtain ⟨y, hy⟩ : ∃ y, L.getD k 0 = y := ⟨_, rfl⟩
          have fy := HU.out y (by rw [← hy, List.getD_eq_getElem?_getD, List.getElem?_eq_getElem hkL]; exact List.getElem_mem _)
          rw [hy] at hcell hd
          have hR' := hR.out
          rw [hd, AG_cons_g] at hR'
          have TS1 := Lib.hid (TS.out wr q y hK.out.b fq.out fy)
          have tb := T2_bdg fq.out fy
          unfold T2v at TS1
          generalize T2 q y = t2 at *
          obtain ⟨s, r, e2⟩ := t2
          dsimp only at hR' tb TS1
          clear hy hd hkL fy
          by_cases h0 : e2 = 0
          · subst h0
            rw [if_neg (by simp)] at hR'
            have BS := Lib.hid tb.1
            have BR := tb.2
            by_cases hz : F.cls r = 1
            · simp only [if_pos hz] at hR'
              rw [map_map_g (O' := O) (fun _ => rfl)] at hR'
              have HR1 := Lib.hid hR'
              have KN : Hid (∀ W : World, Calls Tryz.prog 21 #[.int .u64 r, .pointer (some ⟨g, 0, none⟩)] W fun e w' => e = .returned (.tuple #[]) ∧ Below W.heap.size W w') := fun W => keep_no g r W BR hz
              clear hz hR' tb BR
              go_wp2_with (first
                | (go_at_call 23; (with_reducible refine (TS1.out).mono ?_); rintro e u1 ⟨rfl, hb⟩; have hK := Lib.hid (hK.out.below hb); clear hb)
                | (go_at_call 21; (with_reducible refine (KN.out _).mono ?_); rintro e u2 ⟨rfl, hb⟩; have hK := Lib.hid (hK.out.below hb); clear hb))
              exact ⟨⟨k + 1, _, _, _, O, _, by simp, by omega, rfl, BS.out, HR1.out, (show _ ≤ _ by have := hO.out; omega), hK.out⟩, by simp only [intOf]; omega⟩
            · simp only [if_neg hz] at hR'
              rw [map_map_g (O' := O ++ [r]) (fun _ => by simp)] at hR'
              have HR1 := Lib.hid hR'
              have KY : Hid (∀ (W : World) (A : Option Addr) (n c : Nat) (O : List Int), KL w W g A n c O → O.length ≤ 1000 → Calls Tryz.prog 21 #[.int .u64 r, .pointer (some ⟨g, 0, none⟩)] W fun e w' => e = .returned (.tuple #[]) ∧ ∃ A' n' c', KL w w' g A' n' c' (O ++ [r])) := fun W A n c O h1 h2 => keep_yes g A n c O r W h1 h2 BR hz
              clear hz hR' tb BR
              go_wp2_with (first
                | (go_at_call 23; (with_reducible refine (TS1.out).mono ?_); rintro e u1 ⟨rfl, hb⟩; have hK := Lib.hid (hK.out.below hb); clear hb)
                | (go_at_call 21; (with_reducible refine (KY.out _ _ _ _ _ hK.out (by have := hO.out; omega)).mono ?_); rintro e u2 ⟨rfl, A2, n2, c2, hK2⟩; have hK2 := Lib.hid hK2))
              exact ⟨⟨k + 1, _, _, _, O ++ [r], _, by simp, by omega, rfl, BS.out, HR1.out, (show _ ≤ _ by have := hO.out; simp; omega), hK2.out⟩, by simp only [intOf]; omega⟩
          · rw [if_pos h0] at hR'
            have HR0 : Hid (t = (2, [])) := by show _ = _; rw [ER.out, hR']; rfl
            have kk : (e2 != 0) = true := by simpa using h0
            clear h0 hR' tb
            go_wp2_with (go_at_call 23; (with_reducible refine (TS1.out).mono ?_); rintro e u1 ⟨rfl, hb⟩; have hK := Lib.hid (hK.out.below hb); clear hb)
            go_ret2
            rw [HR0.out]
            exact ⟨_, _, _, rfl, rfl, Sl.nil _ _ _ _, hK.out.b⟩
        · obtain rfl : n = k := by omega
          have hR' := hR.out
          rw [List.drop_of_length_le (by rw [← HN.out]; omega)] at hR'
          unfold AG at hR'
          have BR := fq.out
          by_cases hz : F.cls q = 1
          · rw [if_pos hz] at hR'
            have HR1 : Hid (t = (0, O)) := by show _ = _; rw [ER.out, hR']; simp
            have KN : Hid (∀ W : World, Calls Tryz.prog 21 #[.int .u64 q, .pointer (some ⟨g, 0, none⟩)] W fun e w' => e = .returned (.tuple #[]) ∧ Below W.heap.size W w') := fun W => keep_no g q W BR hz
            clear hz hR' BR
            go_wp2_with (go_at_call 21; (with_reducible refine (KN.out _).mono ?_); rintro e u2 ⟨rfl, hb⟩; have hK := Lib.hid (hK.out.below hb); have p0 := hK.out.k.at_ 0 rfl; clear hb)
            go_ret2
            rw [HR1.out]
            exact ⟨_, _, _, rfl, (Own.sl hK.out.o).len_.1, Own.sl hK.out.o, hK.out.b⟩
          · rw [if_neg hz] at hR'
            have HR1 : Hid (t = (0, O ++ [q])) := by show _ = _; rw [ER.out, hR']; simp
            have KY : Hid (∀ (W : World) (A : Option Addr) (n c : Nat) (O : List Int), KL w W g A n c O → O.length ≤ 1000 → Calls Tryz.prog 21 #[.int .u64 q, .pointer (some ⟨g, 0, none⟩)] W fun e w' => e = .returned (.tuple #[]) ∧ ∃ A' n' c', KL w w' g A' n' c' (O ++ [q])) := fun W A n c O h1 h2 => keep_yes g A n c O q W h1 h2 BR hz
            clear hz hR' BR
            go_wp2_with (go_at_call 21; (with_reducible refine (KY.out _ _ _ _ _ hK.out (by have := hO.out; omega)).mono ?_); rintro e u2 ⟨rfl, A2, n2, c2, hK2⟩; have hK2 := Lib.hid hK2; have p0 := hK2.out.k.at_ 0 rfl)
            go_ret2
            rw [HR1.out]
            exact ⟨_, _, _, rfl, (Own.sl hK2.out.o).len_.1, Own.sl hK2.out.o, hK2.out.b⟩
  · have e : gAd L x = (gCk L, []) := by unfold gAd; rw [if_neg kA]
    rw [e]
    have kk : (gCk L != 0) = true := by simpa using kA
    generalize gCk L = er at *
    clear e kA hs hu hl hx hT HV
    go_enter Tryz.func6, Tryz.ntmps6
    go_wp2_with (go_at_call 9; (with_reducible refine (CA.out _ D.out).mono ?_); rintro e w1 ⟨rfl, hb⟩; have D := Lib.hid (D.out.trans (hb.mono D.out.size)); clear hb CA)
    go_ret2
    exact ⟨_, _, _, rfl, rfl, Sl.nil _ _ _ _, D.out⟩
set_option maxRecDepth 100000 in
set_option maxHeartbeats 16000000 in
theorem Join_g (A : Option Addr) (n c : Nat) (B : Option Addr) (m d : Nat) (L M : List Int) (w : World) (hs : Sl .u64 w (.slice A n c) L) (hs' : Sl .u64 w (.slice B m d) M) (hu : u64s L) (hu' : u64s M) (hl : L.length ≤ 9223372036854775807) (hl' : M.length ≤ 9223372036854775807) (hT : TabD w) :
    Calls Tryz.prog 7 #[.slice A n c, .slice B m d] w (RetL w (gJo L M).1 (gJo L M).2) := by
  have HT : Hid (∀ W : World, Below w.heap.size w W → TabD W) := fun W hW => hT.below hW
  have D := Lib.hid (Below.refl w.heap.size w)
  have CA : Hid (∀ W : World, Below w.heap.size w W → Calls Tryz.prog 9 #[.slice A n c] W (DC.RetB W (.int .i64 (gCk L)))) := fun W hW => Check_g A n c L W (hs.below hW) hu hl (HT.out W hW)
  have CB : Hid (∀ W : World, Below w.heap.size w W → Calls Tryz.prog 9 #[.slice B m d] W (DC.RetB W (.int .i64 (gCk M)))) := fun W hW => Check_g B m d M W (hs'.below hW) hu' hl' (HT.out W hW)
  by_cases kA : gCk L = 0
  · by_cases kB : gCk M = 0
    · have eJ : gJo L M = gJe L M := by unfold gJo; rw [if_pos kA, if_pos kB]
      rw [eJ]
      rw [kA] at CA
      rw [kB] at CB
      have m60 : m ≤ 60 := by have := (gCk_0.1 kB).1; have := sl_len hs'; omega
      have HM : Hid (m = M.length) := sl_len hs'
      have SB : Hid (∀ W : World, Below w.heap.size w W → Sl .u64 W (.slice B m d) M) := fun W h => hs'.below h
      have SA : Hid (∀ W : World, Below w.heap.size w W → Sl .u64 W (.slice A n c) L) := fun W h => hs.below h
      have HU := Lib.hid hu
      have UB := Lib.hid hu'
      have L6 : Hid (L.length ≤ 60) := (gCk_0.1 kA).1
      have AD : Hid (∀ (W : World) (A : Option Addr) (n c : Nat) (O : List Int) (y : Int), Below w.heap.size w W → Sl .u64 W (.slice A n c) O → u64s O → O.length ≤ 1000 → (0 ≤ y ∧ y ≤ 18446744073709551615) → Calls Tryz.prog 6 #[.slice A n c, .int .u64 y] W (RetL W (gAd O y).1 (gAd O y).2)) := fun W A n c O y hW h1 h2 h3 h4 => Add_g A n c O y W h1 h2 (by omega) h4 (HT.out W hW)
      obtain ⟨t, ht⟩ : ∃ t, t = gJe L M := ⟨_, rfl⟩
      rw [← ht]
      have HJ := Lib.hid ht
      obtain ⟨ej, J⟩ := t
      dsimp only
      clear ht eJ kA kB hs hs' hu hu' hl hl' hT
      go_enter Tryz.func7, Tryz.ntmps7
      go_wp2_with (first
        | (go_at_call 9; (with_reducible refine (CA.out _ D.out).mono ?_); rintro e w1 ⟨rfl, hb⟩; have D := Lib.hid (D.out.trans (hb.mono D.out.size)); clear hb CA)
        | (go_at_call 9; (with_reducible refine (CB.out _ D.out).mono ?_); rintro e w2 ⟨rfl, hb⟩; have D := Lib.hid (D.out.trans (hb.mono D.out.size)); clear hb CB)
        | (at_builtin; refine AC.wp_clone64 rfl (.tmp 22) (.tmp 23) rfl _ rfl _ rfl L (SA.out _ (D.out.alloc D.out.size _)) (by have := L6.out; omega) (Blk.new _ _ _) ?_; intro g' c' w4 hH hg; have D := Lib.hid ((D.out.alloc D.out.size _).grown hg (by have := D.out.size; simp; omega) fun k hk => by cases hk); have SL := Lib.hid (Own.sl hH.out); clear hH hg))
      have D2 := D
      clear D
      go_loopw [27, 8] (fun iv ov wr => ∃ (k : Nat) (A1 : Option Addr) (n1 c1 : Nat) (O : List Int), iv = .int .i64 k ∧ k ≤ m ∧ ov = .slice A1 n1 c1 ∧ Hid (Sl .u64 wr (.slice A1 n1 c1) O) ∧ Hid (u64s O ∧ O.length ≤ 100) ∧ Hid ((ej, J) = gJe O (M.drop k)) ∧ Hid (Below w.heap.size w wr)) (fun iv _ _ => m - (intOf iv).toNat)
      case atStart => exact ⟨0, _, _, _, L, rfl, by omega, rfl, SL.out, ⟨HU.out, (show _ ≤ _ by have := L6.out; omega)⟩, HJ.out, D2.out⟩
      case round =>
        obtain ⟨k, A1, n1, c1, O, rfl, hk, rfl, hS, hO, hJ, hD⟩ := hrel
        by_cases hkm : k < m
        · have hkL : k < M.length := by have := HM.out; omega
          obtain ⟨ad, c', e, hc', hb, hcell⟩ := (SB.out _ hD.out).at_ k hkL
          injection e with e1 e2 e3
          subst e1
          clear e2 e3 hc' c' hb
          have hd := drop_cons_g hkL
          obtain ⟨y, hy⟩ : ∃ y, M.getD k 0 = y := ⟨_, rfl⟩
          have hm : y ∈ M := by rw [← hy, List.getD_eq_getElem?_getD, List.getElem?_eq_getElem hkL]; exact List.getElem_mem _
          rw [hy] at hcell hd
          have hJ' := hJ.out
          rw [hd, gJe_c] at hJ'
          have UO := Lib.hid (gAd_bd hO.out.1 (UB.out y hm))
          have AD1 := Lib.hid (AD.out wr A1 n1 c1 O y hD.out hS.out hO.out.1 (by have := hO.out.2; omega) (UB.out y hm))
          generalize gAd O y = g at *
          obtain ⟨eg, G⟩ := g
          dsimp only at hJ' UO AD1
          clear hy hm hd hkL
          by_cases h0 : eg = 0
          · subst h0
            rw [if_pos rfl] at hJ'
            have HJ2 := Lib.hid hJ'
            clear hJ'
            go_wp2_with (go_at_call 6; (with_reducible refine (AD1.out).mono ?_); rintro e w3 ⟨Ag, ng, cg, rfl, hng, Sg, hb⟩; have hD := Lib.hid (hD.out.trans (hb.mono hD.out.size)); clear hb)
            exact ⟨⟨k + 1, _, _, _, G, by simp, by omega, rfl, Sg.out, ⟨UO.out.1, (show _ ≤ _ by have := UO.out.2; omega)⟩, HJ2.out, hD.out⟩, by simp only [intOf]; omega⟩
          · rw [if_neg h0] at hJ'
            injection hJ' with j1 j2
            obtain rfl : J = [] := j2
            obtain rfl : ej = eg := j1
            have kk : (ej != 0) = true := by simpa using h0
            clear h0 UO hJ
            go_wp2_with (go_at_call 6; (with_reducible refine (AD1.out).mono ?_); rintro e w3 ⟨Ag, ng, cg, rfl, hng, Sg, hb⟩; have hD := Lib.hid (hD.out.trans (hb.mono hD.out.size)); clear hb)
            go_ret2
            exact ⟨_, _, _, rfl, rfl, Sl.nil _ _ _ _, hD.out⟩
        · obtain rfl : m = k := by omega
          have hJ' := hJ.out
          rw [List.drop_of_length_le (by have := HM.out; omega), gJe] at hJ'
          have hn1 := sl_len hS.out
          by_cases h6 : 60 < O.length
          · rw [if_pos h6] at hJ'
            injection hJ' with j1 j2
            obtain rfl : J = [] := j2
            subst j1
            have h7 : (n1 : Int) > 60 := by omega
            clear h6 hn1 hJ
            go_wp2
            go_ret2
            exact ⟨_, _, _, rfl, rfl, Sl.nil _ _ _ _, hD.out⟩
          · rw [if_neg h6] at hJ'
            injection hJ' with j1 j2
            subst j1
            subst j2
            have h7 : ¬ (n1 : Int) > 60 := by omega
            have HN1 := Lib.hid hn1
            clear h6 hn1 hJ
            go_wp2
            go_ret2
            exact ⟨_, _, _, rfl, HN1.out, hS.out, hD.out⟩
    · have eJ : gJo L M = (gCk M, []) := by unfold gJo; rw [if_pos kA, if_neg kB]
      rw [eJ]
      rw [kA] at CA
      have kk : (gCk M != 0) = true := by simpa using kB
      generalize gCk M = er at *
      clear eJ kA kB hs hs' hu hu' hl hl' hT
      go_enter Tryz.func7, Tryz.ntmps7
      go_wp2_with (first
        | (go_at_call 9; (with_reducible refine (CA.out _ D.out).mono ?_); rintro e w1 ⟨rfl, hb⟩; have D := Lib.hid (D.out.trans (hb.mono D.out.size)); clear hb CA)
        | (go_at_call 9; (with_reducible refine (CB.out _ D.out).mono ?_); rintro e w2 ⟨rfl, hb⟩; have D := Lib.hid (D.out.trans (hb.mono D.out.size)); clear hb CB))
      go_ret2
      exact ⟨_, _, _, rfl, rfl, Sl.nil _ _ _ _, D.out⟩
  · have eJ : gJo L M = (gCk L, []) := by unfold gJo; rw [if_neg kA]
    rw [eJ]
    have kk : (gCk L != 0) = true := by simpa using kA
    generalize gCk L = er at *
    clear eJ kA hs hs' hu hu' hl hl' hT CB
    go_enter Tryz.func7, Tryz.ntmps7
    go_wp2_with (go_at_call 9; (with_reducible refine (CA.out _ D.out).mono ?_); rintro e w1 ⟨rfl, hb⟩; have D := Lib.hid (D.out.trans (hb.mono D.out.size)); clear hb CA)
    go_ret2
    exact ⟨_, _, _, rfl, rfl, Sl.nil _ _ _ _, D.out⟩
end XC
end Go.Proofs.YtelblhgagpkjmaaGreatDoor
