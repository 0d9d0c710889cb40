/-
  Package nat: Text.
-/
import Derived.Test.YtjihapnplfdmmaaDoorN15
namespace Go.Proofs.YtjihapnplfdmmaaDoor
open Go.RowKit
set_option linter.unusedVariables false
namespace NC
open L
open Z (Nz Tz cmpv)
theorem el_u8 : Elem 62 5 .u8 := Elem.of Tryd.underlying62 (b := 1) (by kernel_rfl) (by decide)
theorem digit_eq (x t : Nat) (ht : t < 9) : x % 1000000000 / 10 ^ t % 10 = x / 10 ^ t % 10 := by
  rcases (by omega : t = 0 ∨ t = 1 ∨ t = 2 ∨ t = 3 ∨ t = 4 ∨ t = 5 ∨ t = 6 ∨ t = 7 ∨ t = 8) with rfl | rfl | rfl | rfl | rfl | rfl | rfl | rfl | rfl <;> simp only [Nat.pow_zero, Nat.reducePow] <;> omega
theorem Head.kept {w w' : World} {B g c : Nat} {l : List Int} {row : Option Nat} (h : Head w B g c l) (hg : w.grownBy w' row) (hr : row ≠ some g) : Head w' B g c l := by
  obtain ⟨h1, h2, cs, hb, hw⟩ := h
  exact ⟨h1, h2, cs, Blk.grown hb hg (fun e => hr e.symm), hw⟩
theorem Head.alloc {w : World} {B g c : Nat} {l : List Int} (h : Head w B g c l) (o : Obj) : Head (w.alloc o) B g c l := by
  obtain ⟨h1, h2, cs, hb, hw⟩ := h
  exact ⟨h1, h2, cs, hb.alloc o, hw⟩
theorem Head.lt {w : World} {B g c : Nat} {l : List Int} (h : Head w B g c l) : g < w.heap.size := by
  obtain ⟨_, _, cs, hb, _⟩ := h
  exact hb.lt
/-- a rest of limbs that is being divided -/
structure RM (w : World) (B g n c : Nat) (z : Nat) (M : List Int) : Prop where
  h : Head w B g c M
  n : M.length = n
  l : Lim M
  nz : Nz M
  eq : lv M = z
theorem dec_bound {l : List Int} (Ll : Lim l) (hl : l.length ≤ 400) {Zn : Nat} (hZ : lv l = Zn) : ∃ N, N ≤ 4000 ∧ Zn < 10 ^ N := by
  refine ⟨10 * l.length, by omega, ?_⟩
  have a1 := lv_lt Ll
  rw [hZ] at a1
  have a3 : ((Zn : Nat) : Int) < ((4294967296 ^ l.length : Nat) : Int) := by rw [Int.natCast_pow]; exact a1
  have a2 : Zn < 4294967296 ^ l.length := Int.ofNat_lt.1 a3
  rw [Nat.pow_mul]
  exact Nat.lt_of_lt_of_le a2 (Nat.pow_le_pow_left (by decide) _)
theorem Head.take {w : World} {B g c m : Nat} {l : List Int} (h : Head w B g c l) (hm : m ≤ l.length) : Head w B g c (l.take m) := by
  obtain ⟨h1, h2, cs, hb, hw⟩ := h
  refine ⟨h1, by rw [List.length_take]; omega, cs, hb, fun j hj => ?_⟩
  rw [List.length_take] at hj
  rw [hw j (by omega), List.getD_eq_getElem?_getD, List.getD_eq_getElem?_getD, List.getElem?_take, if_pos (by omega)]
/-- a rest divided by 10^9: what is left over, and the rest -/
def RetDb (w : World) (B g n c z : Nat) (e : Ending) (w' : World) : Prop :=
  ∃ M, e = .returned (.int .u32 ((z % 1000000000 : Nat) : Int)) ∧ w.grownBy w' (some g) ∧ Hid (Head w' B g c M ∧ M.length = n ∧ Lim M ∧ lv M = (z / 1000000000 : Nat))
theorem divideBy_rm {w : World} {B g n c z : Nat} {M : List Int} (h : RM w B g n c z M) (hn : n ≤ 400) : Calls Tryd.prog 40 #[.slice (some ⟨g, 0, none⟩) n c, .int .u32 1000000000] w (RetDb w B g n c z) := by
  obtain ⟨h1, h2, cs, hb, hw⟩ := h.h
  have hn2 := h.n
  refine (divideBy_c g 0 n c cs M 1000000000 w hb hw h.n h.l (by omega) (by omega) (by omega)).mono fun e w' h' => ?_
  obtain ⟨M', k, rfl, hE, hL, k0, k1, hv⟩ := h'
  have hv := hv.out
  rw [h.eq] at hv
  obtain ⟨cs', hb', hs', hM', _⟩ := hE.blk
  refine ⟨M', ?_, hE.grown, ⟨h1, by rw [hE.len]; omega, cs', hb', hM'⟩, hE.len, hL, ?_⟩
  · rw [hv.2]; rfl
  · rw [hv.1]; rfl
/-- the text of a number, and an error -/
def RetTx (w : World) (er : Int) (s : ByteArray) (e : Ending) (w' : World) : Prop := e = .returned (.tuple #[.string s, .int .i64 er]) ∧ Below w.heap.size w w'
set_option maxRecDepth 100000 in
set_option maxHeartbeats 4000000 in
theorem Text_c (v : Value) (l : List Int) (w : World) (hs : Sl .u32 w v l) (hl : l.length ≤ 9223372036854775807) (Ll : Lim l) :
    Calls Tryd.prog 11 #[v] w (RetTx w (chk l) (if chk l = 0 then bs (dec (lv l).toNat) else bs [])) := by
  have C := Lib.hid (Check_c v l w hs hl)
  obtain ⟨A, c, rfl, hc⟩ := hs.form
  obtain ⟨r, hr⟩ : ∃ r, r = chk l := ⟨_, rfl⟩
  rw [← hr] at C ⊢
  by_cases h : r = 0
  · have h1 := chk_ok.1 (hr.symm.trans h)
    rw [if_pos h]
    by_cases hne : l = []
    · subst hne
      have hd : bs (dec (lv []).toNat) = ⟨#[48]⟩ := by
        rw [show (lv []).toNat = 0 from rfl, dec_small (by decide)]; rfl
      rw [hd]
      clear hs hl Ll hr h1 hd
      subst h
      simp only [List.length_nil] at C hc ⊢
      go_enter Tryd.func11, Tryd.ntmps11
      go_wp2_with (first | (go_at_call 32; (with_reducible refine (C.out).mono ?_); rintro e w' ⟨rfl, rfl⟩))
      go_ret2
      exact ⟨rfl, Below.refl _ _⟩
    · have CL := Lib.hid (clone_c _ l w hs (by omega))
      obtain ⟨Zn, hZ⟩ : ∃ Zn : Nat, lv l = Zn := ⟨(lv l).toNat, by have := lv_nonneg Ll; omega⟩
      have hZ0 : 0 < Zn := by
        have a1 := lv_ge Ll h1.2 hne
        have a2 := pow_pos (l.length - 1)
        omega
      obtain ⟨N, hN4, hZb⟩ := dec_bound Ll h1.1 hZ
      have R0 : Hid (∀ w2 g c, Head w2 w.heap.size g c l → RM w2 w.heap.size g l.length c (Zn / 10 ^ (9 * 0)) l) := fun w2 g c h => ⟨h, rfl, Ll, h1.2, by rw [hZ]; simp⟩
      have e0 : ((l.length : Int) == 0) = false := by have := List.length_pos_iff.2 hne; simp; omega
      have hx4 : l.length ≤ 400 := h1.1
      rw [hZ, Int.toNat_natCast]
      obtain ⟨x, ex⟩ : ∃ x, l.length = x := ⟨_, rfl⟩
      have HRH := Lib.hid (show ∀ e w', RetH w l e w' → ∃ g c, e = .returned (.slice (some ⟨g, 0, none⟩) l.length c) ∧ Hid (Head w' w.heap.size g c l) ∧ Below w.heap.size w w' from fun e w' h => h)
      rw [ex] at C hc e0 hx4 CL R0 HRH ⊢
      have HZ0 := Lib.hid hZ0
      have HZb := Lib.hid hZb
      clear hs hl Ll hr h1 hne hZ hZ0 hZb ex
      subst h
      go_enter Tryd.func11, Tryd.ntmps11
      go_wp2_with (first
        | (go_at_call 32; (with_reducible refine (C.out).mono ?_); rintro e w' ⟨rfl, rfl⟩)
        | (go_at_call 38; (with_reducible refine (CL.out).mono ?_); intro e w2 hh2; obtain ⟨g, c2, rfl, hH2, hB2⟩ := HRH.out e w2 hh2; clear hh2))
      go_loopw [5, 6] (fun s5 s6 wr => ∃ (k : Nat) (Ad : Option Addr) (nd cd : Nat) (g nr cr : Nat) (M : List Int), s5 = .slice Ad nd cd ∧ s6 = .slice (some ⟨g, 0, none⟩) nr cr ∧ nd = 9 * k ∧ nd ≤ 5000 ∧ nr ≤ 400 ∧
        Hid (OwnB wr w.heap.size (.slice Ad nd cd) (dlr Zn (9 * k))) ∧ Hid (RM wr w.heap.size g nr cr (Zn / 10 ^ (9 * k)) M) ∧ Hid ((Value.slice Ad nd cd).ownBlock ≠ some g) ∧ Hid (Below w.heap.size w wr)) (fun s5 _ _ => match s5 with | .slice _ n _ => 10000 - n | _ => 0)
      case atStart => exact ⟨0, none, 0, 0, g, x, c2, l, rfl, rfl, rfl, by omega, hx4, Own.nil _ _ _ _, R0.out _ _ _ hH2.out, (by intro h; cases h), hB2⟩
      case round =>
        obtain ⟨k, Ad, nd, cd, g, nr, cr, M, rfl, rfl, hnd, hnd5, hnr, hD, hR, hSep, hB⟩ := hrel
        subst hnd
        by_cases hn0 : 0 < nr
        · have DB := Lib.hid (divideBy_rm hR.out hnr)
          have hpos : 0 < Zn / 10 ^ (9 * k) := by
            have hne : M ≠ [] := by intro e; have := hR.out.n; rw [e] at this; simp at this; omega
            have a1 := lv_ge hR.out.l hR.out.nz hne
            have a2 := pow_pos (M.length - 1)
            have a3 := hR.out.eq
            omega
          have hk9 : 9 * k < N := by
            have a1 : 10 ^ (9 * k) ≤ Zn := by
              rcases Nat.lt_or_ge Zn (10 ^ (9 * k)) with h | h
              · rw [Nat.div_eq_of_lt h] at hpos; omega
              · exact h
            have a2 := Nat.lt_of_le_of_lt a1 HZb.out
            exact (Nat.pow_lt_pow_iff_right (by decide : 1 < 10)).1 a2
          have HDIG : Hid (∀ t, t < 9 → dlr Zn (9 * k + t) ++ [(48 + ((Zn / 10 ^ (9 * k) % 1000000000 / 10 ^ t : Nat) : Int) % 10)] = dlr Zn (9 * k + (t + 1))) := fun t ht => by
            rw [show 9 * k + (t + 1) = 9 * k + t + 1 by omega, dlr_succ]
            congr 2
            have : Zn / 10 ^ (9 * k + t) % 10 = Zn / 10 ^ (9 * k) % 1000000000 / 10 ^ t % 10 := by
              rw [digit_eq _ _ ht, Nat.div_div_eq_div_mul, ← Nat.pow_add]
            rw [this]; rfl
          have HG : Hid (∀ t, Zn / 10 ^ (9 * k) % 1000000000 / 10 ^ t / 10 = Zn / 10 ^ (9 * k) % 1000000000 / 10 ^ (t + 1)) := fun t => by rw [Nat.div_div_eq_div_mul, Nat.pow_succ]
          have HNX : Hid (Zn / 10 ^ (9 * k) / 1000000000 = Zn / 10 ^ (9 * (k + 1))) := by
            show _ = _
            rw [Nat.div_div_eq_div_mul, show 9 * (k + 1) = 9 * k + 9 by omega, Nat.pow_add]
          have hGlt : Zn / 10 ^ (9 * k) % 1000000000 < 1000000000 := Nat.mod_lt _ (by decide)
          generalize Zn / 10 ^ (9 * k) = Zk at *
          obtain ⟨G, hG⟩ : ∃ G, Zk % 1000000000 = G := ⟨_, rfl⟩
          have HDB : Hid (∀ e w', RetDb wr w.heap.size g nr cr Zk e w' → ∃ M, e = .returned (.int .u32 (G : Int)) ∧ wr.grownBy w' (some g) ∧ Hid (Head w' w.heap.size g cr M ∧ M.length = nr ∧ Lim M ∧ lv M = (Zk / 1000000000 : Nat))) := fun e w' h => by rw [← hG]; exact h
          rw [hG] at HDIG HG hGlt
          clear hG hR hpos
          go_wp2_with (go_at_call 40; (with_reducible refine (DB.out).mono ?_); intro e w1 hh; obtain ⟨M1, rfl, hg1, hM1⟩ := HDB.out e w1 hh; clear hh)
          have hD1 : OwnB w1 w.heap.size (.slice Ad (9 * k) cd) (dlr Zn (9 * k)) := World.ownsRow.kept hD.out hg1 (by
            cases h : (Value.slice Ad (9 * k) cd).ownBlock with
            | none => exact .inl rfl
            | some g' => exact .inr fun e => hSep.out (by rw [h, e]))
          have hB1 := hB.out.grown hg1 hB.out.size fun k hk => by injection hk with hk; have := hM1.out.1.1; omega
          have hD1 := Lib.hid hD1
          have hB1 := Lib.hid hB1
          go_loopw [25, 5, 7] (fun s25 s5 s7 wx => ∃ (t : Nat) (Ad : Option Addr) (nd cd : Nat), s25 = .int .i64 t ∧ t ≤ 9 ∧ s5 = .slice Ad nd cd ∧ nd = 9 * k + t ∧ s7 = .int .u32 ((G / 10 ^ t : Nat) : Int) ∧ Hid (OwnB wx w.heap.size (.slice Ad nd cd) (dlr Zn (9 * k + t))) ∧
            Hid (Head wx w.heap.size g cr M1) ∧ Hid ((Value.slice Ad nd cd).ownBlock ≠ some g) ∧ Hid (Below w.heap.size w wx)) (fun s25 _ _ _ => 9 - (intOf s25).toNat)
          case atStart => exact ⟨0, Ad, _, cd, rfl, by omega, rfl, by omega, by simp, hD1.out, hM1.out.1, hSep.out, hB1.out⟩
          case round =>
            obtain ⟨t, Ad, nd, cd, rfl, ht, rfl, hnd, rfl, hD, hH, hSep, hB⟩ := hrel
            subst hnd
            by_cases ht9 : t < 9
            · obtain ⟨gg, hgg⟩ : ∃ gg, G / 10 ^ t = gg := ⟨_, rfl⟩
              have hgb : gg ≤ 1000000000 := by rw [← hgg]; exact Nat.le_trans (Nat.div_le_self _ _) (Nat.le_of_lt hGlt)
              have hdig := HDIG.out t ht9
              have hgn := HG.out t
              rw [hgg] at hdig hgn ⊢
              have hdig := Lib.hid hdig
              have hgn := Lib.hid hgn
              have wb := hB.out.size
              have hlen := dlr_len Zn (9 * k + t)
              have HL := Lib.hid hlen
              have gm0 : 0 ≤ (gg : Int) % 10 := by omega
              have gm1 : (gg : Int) % 10 < 10 := by omega
              clear hgg hlen
              go_wp2_with (at_builtin; refine app1 el_u8 rfl _ _ rfl rfl hD.out (48 + (gg : Int) % 10) rfl (by have := HL.out; omega) wb ?_; intro A2 k2 c2 w2 hk2 hown2 hg2 hat2)
              exact ⟨⟨t + 1, A2, k2, c2, by simp, by omega, rfl, by have := hk2.out; have := HL.out; omega, congrArg (Value.int .u32) (by rw [← hgn.out]; rfl), by rw [← hdig.out]; exact hown2, hH.out.kept hg2 hSep.out, (by
                rcases hat2 with h | h
                · rw [h]; exact hSep.out
                · rw [h]; intro e; injection e with e; have := hH.out.lt; omega), hB.out.grown hg2 wb fun k hk => (Own.lt hD.out k hk).1⟩, by simp only [intOf]; omega⟩
            · obtain rfl : t = 9 := by omega
              have TS := Head.sl hH.out
              rw [hM1.out.2.1] at TS
              have TR := Lib.hid (trim_c (some ⟨g, 0, none⟩) nr cr M1 wr TS (by rw [hM1.out.2.1]; omega))
              clear TS
              go_wp2_with (first | (go_at_call 39; (with_reducible refine (TR.out).mono ?_); rintro e w5 ⟨m5, rfl, hm5, hz5, hv5, rfl⟩))
              have hm5' : m5 ≤ nr := by rw [← hM1.out.2.1]; exact hm5
              refine ⟨⟨k + 1, Ad, _, cd, g, m5, cr, M1.take m5, rfl, rfl, by omega, by omega, by omega, hD.out, ⟨hH.out.take hm5, by rw [List.length_take]; omega, hM1.out.2.2.1.take m5, hz5, ?_⟩, hSep.out, hB.out⟩, by simp; omega⟩
              rw [hv5, hM1.out.2.2.2, HNX.out]
        · obtain rfl : nr = 0 := by omega
          have hM0 : M = [] := List.eq_nil_of_length_eq_zero hR.out.n
          have hz : Zn / 10 ^ (9 * k) = 0 := by
            have := hR.out.eq
            rw [hM0] at this
            have e : (0 : Int) = ((Zn / 10 ^ (9 * k) : Nat) : Int) := this
            omega
          have hlt : Zn < 10 ^ (9 * k) := by
            rcases Nat.lt_or_ge Zn (10 ^ (9 * k)) with h | h
            · exact h
            · have := (Nat.le_div_iff_mul_le (Nat.pow_pos (by decide : 0 < 10))).2 (show 1 * 10 ^ (9 * k) ≤ Zn by omega)
              omega
          have hk0 : 0 < k := by
            rcases Nat.eq_zero_or_pos k with h | h
            · subst h; simp at hlt; have := HZ0.out; omega
            · exact h
          have hne : dlr Zn (9 * k) ≠ [] := by intro e; have := dlr_len Zn (9 * k); rw [e] at this; simp at this; omega
          have hdl := dlr_len Zn (9 * k)
          have TR := Lib.hid (TrimRight_c Ad (9 * k) cd (dlr Zn (9 * k)) wr (Own.sl hD.out) (by omega) hne)
          have SD : Hid (∀ m, m ≤ (dlr Zn (9 * k)).length → ((∀ d ∈ (dlr Zn (9 * k)).drop m, d = 48) ∧ (m = 0 ∨ (dlr Zn (9 * k)).getD (m - 1) 0 ≠ 48)) → (dlr Zn (9 * k)).take m = rdec Zn) := fun m h1 h2 => strip_dec HZ0.out hlt (by omega) h2.1 h2.2
          obtain ⟨gd, rfl⟩ : ∃ gd, Ad = some ⟨gd, 0, none⟩ := by
            rcases hD.out.2 with ⟨_, h0⟩ | ⟨gd, cap, cur, e, _⟩
            · omega
            · injection e with e1; exact ⟨gd, e1⟩
          have HDL := Lib.hid hdl
          have hm9 : 9 * k ≤ 5000 := hnd5
          have gdB := (Own.lt hD.out gd rfl).1
          have RV : Hid (∀ m, m ≤ 9 * k → (dlr Zn (9 * k)).take m = rdec Zn → Calls Tryd.prog 42 #[.slice (some ⟨gd, 0, none⟩) m cd] wr (RetRv wr w.heap.size gd m cd (rdec Zn))) := fun m h1 h2 => by
            have ho := OwnB.take hD.out h1 (by intro h; cases h)
            rw [h2] at ho
            exact Reverse_c w.heap.size gd m cd (rdec Zn) wr ho (by rw [← h2, List.length_take]; omega)
          have CV : Hid (∀ W m, OwnB W w.heap.size (.slice (some ⟨gd, 0, none⟩) m cd) (rdec Zn).reverse → (convert 62 9 (.slice (some ⟨gd, 0, none⟩) m cd)).run Tryd.prog W = .ok (.string (bs (dec Zn))) W) := fun W m h => by
            have hs := Own.sl h
            have hm := hs.len_.1
            rw [rdec_rev, List.length_map] at hm
            rw [hm]
            refine run_convert_bytes_back W 62 9 5 ⟨gd, 0, none⟩ cd (dec Zn) Tryd.underlying62 Tryd.underlying5 Tryd.underlying9 fun j hj => ?_
            have := OwnB.cell h j (by rw [rdec_rev, List.length_map]; exact hj)
            rw [rdec_rev] at this
            rw [show (⟨gd, 0, none⟩ : Addr).add j = ⟨gd, j, none⟩ by unfold Addr.add; split <;> simp_all]
            rw [this, List.getD_eq_getElem?_getD, List.getElem?_map, List.getElem?_eq_getElem hj]; rfl
          clear hM0 hz hlt hk0 hne hdl hn0 hR
          go_wp2_with (first
            | (go_at_call 41; (with_reducible refine (TR.out).mono ?_); rintro e w3 ⟨m3, rfl, hm3, hh3, rfl⟩; have hE3 := Lib.hid (SD.out m3 hm3 hh3.out); have hm3' : m3 ≤ 9 * k := (by have := HDL.out; omega); have RV3 := Lib.hid (RV.out m3 hm3' hE3.out))
            | (go_at_call 42; (with_reducible refine (RV3.out).mono ?_); rintro e w4 ⟨rfl, hg4, hO4⟩; have hcv := CV.out w4 m3 hO4))
          go_ret2
          exact ⟨rfl, hB.out.grown hg4 hB.out.size fun k hk => by injection hk with hk; omega⟩
  · have e1 : (r != 0) = true := by simp [h]
    rw [if_neg h]
    clear hs hl Ll hr h
    go_enter Tryd.func11, Tryd.ntmps11
    go_wp2_with (first | (go_at_call 32; (with_reducible refine (C.out).mono ?_); rintro e w' ⟨rfl, rfl⟩))
    go_ret2
    exact ⟨rfl, Below.refl _ _⟩
end NC
end Go.Proofs.YtjihapnplfdmmaaDoor
