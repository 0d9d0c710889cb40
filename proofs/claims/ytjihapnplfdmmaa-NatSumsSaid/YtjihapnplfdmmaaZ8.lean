/-
  The reference's whole number of limbs (ZLimbs).
-/
import Derived.Test.YtjihapnplfdmmaaZ7
import Derived.Test.YtjihapnplfdmmaaLPure
import Derived.Deep.RegionHeld3
namespace Go.Proofs.Ytjihapnplfdmmaa
open Go.RowKit
set_option linter.unusedVariables false
theorem Sl.drop {k : IntKind} {w : World} {L : List Int} {ad : Addr} {n c : Nat} (h : Sl k w (.slice (some ad) n c) L) (m : Nat) (hm : m ≤ L.length) : Sl k w (.slice (some (ad.add m)) (n - m) (c - m)) (L.drop m) := by
  obtain ⟨A', c', e, hc, h⟩ := h
  injection e with e1 e2 e3
  subst e1 e3
  subst e2
  refine ⟨some (ad.add m), c - m, by rw [List.length_drop], by rw [List.length_drop]; omega, ?_⟩
  rcases h with rfl | ⟨ad', e', hb, hr⟩
  · left; simp
  · injection e' with e'
    subst e'
    right
    refine ⟨_, rfl, by rw [block_of_add]; exact hb, fun j hj => ?_⟩
    rw [List.length_drop] at hj
    rw [add_of_add, hr (m + j) (by omega), List.getElem_drop]
namespace ZC
open Z
set_option maxHeartbeats 8000000 in
theorem ZLimbs_c : ∀ (N : Nat) (s : Value) (l : List Int) (w : World), Sl .u32 w s l → l.length ≤ N → l.length ≤ 30000 → L.Lim l → Calls Try.prog 16 #[s] w (RetZ w (L.lv l)) := by
  intro N
  induction N with
  | zero =>
    intro s l w hs h1 h2 h3
    obtain rfl := List.eq_nil_of_length_eq_zero (by omega : l.length = 0)
    obtain ⟨A, c, rfl, hc, _⟩ := hs.open_
    go_enter Try.func16, Try.ntmps16
    go_wp2
    exact bodyPost_ret (v := .agg #[.bool false, .slice none 0 0]) (by simp [results, Try.results16, go_sem]) rfl
      ⟨_, rfl, ⟨_, _, _, _, rfl, ZL.nil _ _ _, .inl rfl⟩, below1 w _⟩
  | succ N ih =>
    intro s l w hs h1 h2 h3
    by_cases hz : l.length ≤ N
    · exact ih s l w hs hz h2 h3
    · by_cases hone : l.length = 1
      · obtain ⟨d, rfl⟩ := List.length_eq_one_iff.1 hone
        obtain ⟨ad, c, rfl, hc, hb, hcell⟩ := hs.at_ 0 (by simp)
        rw [show ad.add 0 = ad by unfold Addr.add; simp] at hcell
        have hcell := (World.cell?_alloc_lt w (.cells #[.bool false, .slice none 0 0] 34) ad hb).trans hcell
        simp only [List.getD_cons_zero] at hcell
        have hd := h3 d (by simp)
        have NC := Lib.hid (fun W => N_c d (by omega) (by omega) W)
        have HL : L.lv [d] = d := by simp [L.lv]
        rw [HL]
        clear ih
        go_enter Try.func16, Try.ntmps16
        go_wp2_with (first | (go_at_call 10; (with_reducible refine (NC.out _).mono ?_); rintro e w1 ⟨_, rfl, ⟨b1, A1, n1, c1, rfl, hv1⟩, hb1⟩ ; obtain ⟨hc1, hf1⟩ := bcell hb1 ; have hz1 := hb1.size))
        have bw : Below w.heap.size w w1 := (below1 w _).trans (hb1.mono (by simp))
        have c0 : w1.cell? ⟨w.heap.size, 0, none⟩ = some (.bool false) := by rw [hb1.cell (by simp)]; simp [go_sem]
        have c1' : w1.cell? ⟨w.heap.size, 1, none⟩ = some (.slice none 0 0) := by rw [hb1.cell (by simp)]; simp [go_sem]
        exact bodyPost_ret (v := .agg #[.bool b1, .slice A1 n1 c1]) (by simp [results, Try.results16, go_sem, c0, c1']) rfl (RetZ.cell hv1 (by simp) (Nat.le_refl _) c0 c1' bw)
      · obtain ⟨n, hn⟩ : ∃ n, n = l.length := ⟨_, rfl⟩
        obtain ⟨ad, c, rfl, hc, hb, _⟩ := hs.at_ 0 (by omega)
        have hcut := L.lv_cut l (n / 2) (by omega)
        rw [← hn] at hs ⊢
        have S1 := Lib.hid (hs.take (n / 2) (by omega))
        have S2 := Lib.hid (hs.drop (n / 2) (by omega))
        have B1 := L.lv_big (h3.take (n / 2)) (by rw [List.length_take]; omega)
        have B2 := L.lv_big (h3.drop (n / 2)) (by rw [List.length_drop]; omega)
        have B3 : (L.lv (l.drop (n / 2)) * 2 ^ (32 * ((n : Int) / 2)).toNat).natAbs < big 1000000 := by
          rw [show (32 * ((n : Int) / 2)).toNat = 32 * (n / 2) by omega, ← L.pow_two]
          have a := L.lv_big h3 (by omega)
          have b := L.lv_nonneg (h3.take (n / 2))
          have c := L.lv_nonneg (h3.drop (n / 2))
          have d := Int.mul_nonneg c (Int.le_of_lt (L.pow_pos (n / 2)))
          rw [Int.mul_comm] at hcut
          omega
        have P1 := Lib.hid (fun W (h : Sl .u32 W (.slice (some ad) (n / 2) c) (l.take (n / 2))) => ih _ _ W h (by rw [List.length_take]; omega) (by rw [List.length_take]; omega) (h3.take _))
        have P2 := Lib.hid (fun W (h : Sl .u32 W (.slice (some (ad.add (n / 2))) (n - n / 2) (c - n / 2)) (l.drop (n / 2))) => ih _ _ W h (by rw [List.length_drop]; omega) (by rw [List.length_drop]; omega) (h3.drop _))
        have PW := Lib.hid (fun W => ZPow_c (32 * (n / 2)) (32 * ((n : Int) / 2)) W (by omega) (by omega) (by omega))
        have PM := Lib.hid (fun va vb W h1 h2 => ZMul_c va vb (L.lv (l.drop (n / 2))) (2 ^ (32 * ((n : Int) / 2)).toNat) W h1 h2 B2 (pow2_big _ (by omega)))
        have PA := Lib.hid (fun va vb W h1 h2 => ZAdd_c va vb (L.lv (l.take (n / 2))) (L.lv (l.drop (n / 2)) * 2 ^ (32 * ((n : Int) / 2)).toNat) W h1 h2 B1 B3)
        rw [show L.lv (l.take (n / 2)) + L.lv (l.drop (n / 2)) * 2 ^ (32 * ((n : Int) / 2)).toNat = L.lv l by rw [hcut, show (32 * ((n : Int) / 2)).toNat = 32 * (n / 2) by omega, ← L.pow_two, Int.mul_comm (4294967296 ^ (n / 2))]] at PA
        have N0 := Lib.hid (Blk.new w 34 #[.bool false, .slice none 0 0])
        rw [← hn] at hc h1 h2 hone hz
        have e0 : ((n : Int) == 0) = false := by simp; omega
        have e1 : ((n : Int) == 1) = false := by simp; omega
        clear ih hcut hs hn B1 B2 B3 h3
        go_enter Try.func16, Try.ntmps16
        go_wp2
        go_region_with (first
          | (go_at_call 16; (with_reducible refine (P1.out _ (S1.out.below (below1 w _).drew)).mono ?_); rintro e w1 ⟨_, rfl, ⟨b1, A1, n1, c1, rfl, hv1⟩, hb1⟩; have M1 := Blk.after hb1 N0.out rfl (by simp); have BW1 : Below w.heap.size w w1 := (below1 w _).drew.trans (hb1.mono (by simp)))
          | (go_at_call 16; (with_reducible refine (P2.out _ (S2.out.below BW1)).mono ?_); rintro e w2 ⟨_, rfl, ⟨b2, A2, n2, c2, rfl, hv2⟩, hb2⟩; have M2 := M1.below hb2 M1.lt; have BW2 : Below w.heap.size w w2 := BW1.trans (hb2.mono BW1.size))
          | (go_at_call 30; (with_reducible refine (PW.out _).mono ?_); rintro e w3 ⟨_, rfl, ⟨b3, A3, n3, c3, rfl, hv3⟩, hb3⟩; have M3 := M2.below hb3 M2.lt; have BW3 : Below w.heap.size w w3 := BW2.trans (hb3.mono BW2.size))
          | (go_at_call 15; (with_reducible refine (PM.out _ _ _ (hv2.below hb3).v hv3.v).mono ?_); rintro e w4 ⟨_, rfl, ⟨b4, A4, n4, c4, rfl, hv4⟩, hb4⟩; have M4 := M3.below hb4 M3.lt; have BW4 : Below w.heap.size w w4 := BW3.trans (hb4.mono BW3.size))
          | (go_at_call 14; (with_reducible refine (PA.out _ _ _ (((hv1.below hb2).below hb3).below hb4).v hv4.v).mono ?_); rintro e w5 ⟨_, rfl, ⟨b5, A5, n5, c5, rfl, hv5⟩, hb5⟩; have M5 := M4.below hb5 M4.lt; have BW5 : Below w.heap.size w w5 := BW4.trans (hb5.mono BW4.size); clear hb1 hb2 hb3 hb4 hb5; have p0 := M5.at_ 0 rfl; have p1 := M5.at_ 1 rfl; have f0 := M5.frozen 0; have f1 := M5.frozen 1))
        all_goals
          have t0 := M5.at_ 0 rfl
          have t1 := M5.at_ 1 rfl
          have R := Lib.hid (RetZ.cell hv5 BW4.size (Nat.le_refl _) t0 t1 BW5)
          clear hv5 hv4 hv3 hv2 hv1 BW5 BW4 BW3 BW2 BW1 M1 M2 M3 M4 M5
          go_wp2
          exact bodyPost_ret (v := .agg #[.bool b5, .slice A5 n5 c5]) (by simp [results, Try.results16, go_sem, t0, t1]) rfl R.out
end ZC
end Go.Proofs.Ytjihapnplfdmmaa
