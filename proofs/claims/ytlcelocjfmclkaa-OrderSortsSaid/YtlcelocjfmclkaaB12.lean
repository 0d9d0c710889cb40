/-
  The library's slices.Sort of []uint64: every slice, nil too: what it holds sorted. slices.Clone of []uint64.
-/
import Derived.Test.YtlcelocjfmclkaaB11
namespace Go.Proofs.Ytlcelocjfmclkaa
open Go.RowKit
set_option linter.unusedVariables false
set_option linter.unusedSimpArgs false
namespace BC
open AC
/-- a copy of the call's own -/
def RetC (w : World) (l : List Int) (e : Ending) (w' : World) : Prop := ∃ A c, e = .returned (.slice A l.length c) ∧ OwnQ w' w.heap.size (.slice A l.length c) l ∧ (A = none ∧ c = 0 ∨ ∃ g, A = some ⟨g, 0, none⟩) ∧ Below w.heap.size w w'
set_option maxRecDepth 100000 in
theorem Clone_nil (w : World) : Calls Try.prog 22 #[.slice none 0 0] w (RetC w []) := by
  have he : ∀ w : World, (binOp .eql 23 (.slice none 0 0) (.slice none 0 0)).run Try.prog w = .ok (.bool true) w := fun _ => by kernel_rfl
  go_enter Try.func22, Try.ntmps22
  go_wp2
  go_ret
  exact ⟨none, 0, rfl, Own.nil _ _ _ _, .inl ⟨rfl, rfl⟩, Below.refl _ _⟩
set_option maxRecDepth 100000 in
theorem Clone_some (ad : Addr) (n c : Nat) (l : List Int) (w : World) (hs : Sl .u64 w (.slice (some ad) n c) l) (hl : l.length * 8 ≤ 140737488351232) : Calls Try.prog 22 #[.slice (some ad) n c] w (RetC w l) := by
  have HS := Lib.hid (hs.alloc (.cells #[] 22))
  have he : ∀ w : World, (binOp .eql 23 (.slice (some ad) n c) (.slice none 0 0)).run Try.prog w = .ok (.bool false) w := fun _ => by kernel_rfl
  go_enter Try.func22, Try.ntmps22
  go_wp2_with (at_builtin; refine wp_clone64 rfl (.tmp 5) (.tmp 6) rfl w.heap.size rfl _ rfl l HS.out hl (Blk.new _ _ _) ?_; intro g' c' w2 hH hg)
  go_ret
  exact ⟨_, c', rfl, hH.out, .inr ⟨g', rfl⟩, ((Below.refl _ _).alloc (Nat.le_refl _) _).grown hg (by simp) fun k hk => by cases hk⟩
theorem Clone_any (A : Option Addr) (n c : Nat) (l : List Int) (w : World) (hs : Sl .u64 w (.slice A n c) l) (hA : (A = none ∧ n = 0 ∧ c = 0) ∨ ∃ ad, A = some ad) (hl : l.length * 8 ≤ 140737488351232) : Calls Try.prog 22 #[.slice A n c] w (RetC w l) := by
  rcases hA with ⟨rfl, rfl, rfl⟩ | ⟨ad, rfl⟩
  · have := hs.len_.1
    obtain rfl := List.eq_nil_of_length_eq_zero this.symm
    exact Clone_nil w
  · exact Clone_some ad n c l w hs hl
open Go.Sort Go.Lib
theorem Len_c (n : Nat) (hn : n < 18446744073709551616) (w : World) : Calls Try.prog 35 #[.int .u64 n] w fun e w' => e = .returned (.int .i64 (bitsLen n : Nat)) ∧ w' = w := by
  have h := Any.bits_Len (SlLaysF0.n15.bits (P := Try.prog) (ρ := Try.sortL_ren) { Try.sortL with }) (n : Int) w (by omega) (by omega)
  rw [Int.toNat_natCast, bitLen_eq _ (by omega)] at h
  exact h
theorem sw_grown {w W : World} {g o : Nat} {d : Array Int} (h : Sq w g o d W) : w.grownBy W (some g) := by
  obtain ⟨n, os, rfl⟩ := h
  unfold sortWorld
  refine ⟨rfl, rfl, rfl, by simp, fun k hk hne => ?_⟩
  rw [heap_grow_old _ _ (by simpa using hk)]
  have : g ≠ k := fun e => hne (by rw [e])
  simp [putRow, mapBlock, Sort.ahead, Array.getElem?_modify, this]
theorem sw_own {w W : World} {base g c : Nat} {L : List Int} (d : Array Int) (h : OwnQ w base (.slice (some ⟨g, 0, none⟩) L.length c) L) (hW : Sq w g 0 d W) (hd : d.size = L.length) :
    OwnQ W base (.slice (some ⟨g, 0, none⟩) L.length c) d.toList := by
  obtain ⟨m, os, rfl⟩ := hW
  rcases h.2 with ⟨h0, _⟩ | ⟨g', c', cur, e, hg, hb, h1, h2, h3, h4⟩
  · cases h0
  injection e with e1 _ e3
  injection e1 with e1
  injection e1 with e1
  subst e1 e3
  have hlt : g < w.heap.size := (Array.getElem?_eq_some_iff.1 hb).1
  refine ⟨by simp, .inr ⟨g, c, putCells (Value.int .u64) 0 d cur, by simp [hd], hg, ?_, by simpa [hd] using h1, h2, by simp [putCells, h3], ?_⟩⟩
  · unfold sortWorld
    rw [heap_grow_old _ _ (by simpa using hlt)]
    simp [putRow, mapBlock, Sort.ahead, Array.getElem?_modify, hb, onCells]
  · apply List.ext_getElem?
    intro j
    rw [Array.length_toList, Nat.mul_one]
    by_cases hj : j < d.size
    · rw [List.getElem?_take_of_lt hj, Array.getElem?_toList]
      simp [putCells, hj, show j < cur.size by omega]
    · rw [List.getElem?_take_eq_none (by omega), List.getElem?_eq_none (by simp; omega)]
/-- sorted upwards -/
def srt (L : List Int) : List Int := L.mergeSort fun x y => decide (x ≤ y)
theorem srt_len (L : List Int) : (srt L).length = L.length := by unfold srt; simp
theorem srt_perm {L M : List Int} (h : L.Perm M) : srt L = srt M := by
  unfold srt
  have hp : (L.mergeSort fun x y => decide (x ≤ y)).Perm (M.mergeSort fun x y => decide (x ≤ y)) := (List.mergeSort_perm _ _).trans (h.trans (List.mergeSort_perm _ _).symm)
  have tr : ∀ a b c : Int, decide (a ≤ b) = true → decide (b ≤ c) = true → decide (a ≤ c) = true := fun a b c h1 h2 => by simp at *; omega
  have tt : ∀ a b : Int, (decide (a ≤ b) || decide (b ≤ a)) = true := fun a b => by simp; omega
  refine List.Perm.eq_of_pairwise (le := fun x y => decide (x ≤ y) = true) ?_ (List.pairwise_mergeSort tr tt L) (List.pairwise_mergeSort tr tt M) hp
  intro a b _ _ h1 h2
  simp at h1 h2
  omega
set_option maxRecDepth 100000 in
theorem SortQ_c (base g n c : Nat) (L : List Int) (w : World) (h : OwnQ w base (.slice (some ⟨g, 0, none⟩) n c) L) (hl : L.length < 4611686018427387904) :
    Calls Try.prog 23 #[.slice (some ⟨g, 0, none⟩) n c] w fun e w' => e = .returned (.tuple #[]) ∧ w.grownBy w' (some g) ∧ OwnQ w' base (.slice (some ⟨g, 0, none⟩) n c) (srt L) := by
  have hn : n = L.length := (Own.sl h).len_.1
  subst hn
  have hH : Holds (Value.int .u64) w g 0 L.toArray := by
    intro j hj
    have hj' : j < L.length := by simpa using hj
    rw [Nat.zero_add]
    refine ⟨?_, OwnQ.frozen h j⟩
    rw [OwnQ.cell h j hj', getElem!_pos _ j hj, List.getElem_toArray, List.getD_eq_getElem?_getD, List.getElem?_eq_getElem hj']; rfl
  have hblk : g < w.heap.size := (Own.lt h g rfl).2
  have R : Rq w g 0 L.toArray := ⟨fun _ => rfl, hH, hblk⟩
  have hlim : bitsLen L.length < 4611686018427387904 := by have := (bitsLen_le_iff L.length 62).2 (by omega); omega
  have P := Lib.hid (pdq_c g 0 c L.length L.toArray w R (by simp) hl (L.length + 1) 0 L.length (bitsLen L.length) L.toArray w (by omega) (by simp) (SW.start hH) (Nat.zero_le _) (Nat.le_refl _) hlim (Or.inl rfl))
  have LN := Lib.hid (fun w => Len_c L.length (by omega) w)
  have ES : Hid ((pdq ltInt L.toArray 0 L.length (bitsLen L.length) true true).toList = srt L ∧ (pdq ltInt L.toArray 0 L.length (bitsLen L.length) true true).size = L.length) := by
    have h1 := sortInt_holds (sort_sorts ltInt) L
    have e : Sort.sort ltInt L.toArray = pdq ltInt L.toArray 0 L.length (bitsLen L.length) true true := by unfold Sort.sort; simp
    rw [e] at h1
    refine ⟨h1, ?_⟩
    rw [← Array.length_toList, h1, List.length_mergeSort]
  obtain ⟨k, hk⟩ : ∃ k, k = bitsLen L.length := ⟨_, rfl⟩
  obtain ⟨n, hn⟩ : ∃ n, n = L.length := ⟨_, rfl⟩
  have HO := Lib.hid h
  rw [← hk] at LN P ES
  rw [← hn] at LN P ES HO hl ⊢
  have HN := Lib.hid hn
  have v1 : IntKind.u64.wrap (n : Int) = n := by rw [IntKind.wrap_u64]; omega
  clear hk hn hH R h hlim hblk
  have P : Hid (Calls Try.prog 34 #[.slice (some ⟨g, 0, none⟩) n c, .int .i64 0, .int .i64 n, .int .i64 k] w fun e w' => e = .returned (.tuple #[]) ∧ Sq w g 0 (pdq ltInt L.toArray 0 n k true true) w') := P
  go_enter Try.func23, Try.ntmps23
  go_wp2_with (first
    | (go_at_call 35; (with_reducible refine (LN.out _).mono ?_); rintro e w2 ⟨rfl, rfl⟩)
    | (go_at_call 34; (with_reducible refine P.out.mono ?_); rintro e w3 ⟨rfl, S3⟩; have S3 := Lib.hid S3))
  go_end0
  refine ⟨rfl, sw_grown S3.out, ?_⟩
  have := HO.out
  rw [HN.out] at this
  have := sw_own _ this S3.out (by rw [ES.out.2, HN.out])
  rw [ES.out.1] at this
  rw [HN.out]
  exact this
set_option maxRecDepth 1000000 in
theorem InsNil_c (w : World) : Calls Try.prog 41 #[.slice none 0 0, .int .i64 0, .int .i64 0] w fun e w' => e = .returned (.tuple #[]) ∧ w' = w := by
  go_enter Try.func41, Try.ntmps41
  go_wp2
  go_loopw [6] (fun s wr => s = .int .i64 1 ∧ wr = w) (fun _ _ => 0)
  case atStart => exact ⟨by go_num, rfl⟩
  case round =>
    obtain ⟨rfl, rfl⟩ := hrel
    go_wp2
    go_end0
    exact ⟨rfl, rfl⟩
set_option maxRecDepth 1000000 in
theorem PdqNil_c (w : World) : Calls Try.prog 34 #[.slice none 0 0, .int .i64 0, .int .i64 0, .int .i64 0] w fun e w' => e = .returned (.tuple #[]) ∧ w' = w := by
  go_enter Try.func34, Try.ntmps34
  go_wp2
  go_loopw [1, 2] (fun s1 s2 wr => s1 = .int .i64 0 ∧ s2 = .int .i64 0 ∧ wr = w) (fun _ _ _ => 0)
  case atStart => exact ⟨rfl, rfl, rfl⟩
  case round =>
    obtain ⟨rfl, rfl, rfl⟩ := hrel
    go_wp2_with (go_at_call 41; (with_reducible refine (InsNil_c _).mono ?_); rintro e w2 ⟨rfl, rfl⟩)
    ((try simp only [Exit.inBlock, Exit.then]); refine bodyPost_ret (results_none rfl _ _ _) rfl ?_)
    exact ⟨rfl, rfl⟩
set_option maxRecDepth 100000 in
theorem SortNil_c (w : World) : Calls Try.prog 23 #[.slice none 0 0] w fun e w' => e = .returned (.tuple #[]) ∧ w = w' := by
  have LN := Lib.hid (fun w => Len_c 0 (by omega) w)
  have e0 : bitsLen 0 = 0 := rfl
  rw [e0] at LN
  clear e0
  go_enter Try.func23, Try.ntmps23
  go_wp2_with (first
    | (go_at_call 35; refine (LN.out _).mono ?_; rintro e w2 ⟨rfl, rfl⟩)
    | (go_at_call 34; refine (PdqNil_c _).mono ?_; rintro e w3 ⟨rfl, rfl⟩))
  go_end0
  exact ⟨rfl, rfl⟩
end BC
end Go.Proofs.Ytlcelocjfmclkaa
