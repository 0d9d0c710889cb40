/-
  order.Sort: a sorted copy in new memory.
-/
import Derived.Test.YtlcelocjfmclkaaA7
namespace Go.Proofs.Ytlcelocjfmclkaa
open Go.RowKit
set_option linter.unusedVariables false
set_option linter.unusedSimpArgs false
namespace AC
theorem insAll_len (L : List Int) : (A.insAll L).length = L.length := (A.insAll_ok L).2.length_eq
set_option maxRecDepth 100000 in
theorem Sort_c (A0 : Option Addr) (n c : Nat) (L : List Int) (w : World) (hs : Sl .u64 w (.slice A0 n c) L) (hu : u64s L) (hl : L.length * 8 ≤ 140737488351232) :
    Calls Try.prog 15 #[.slice A0 n c] w (RetO w (A.insAll L)) := by
  have HS := Lib.hid (hs.alloc (.cells #[] 22))
  have HU := Lib.hid hu
  have HL := Lib.hid hl
  have HE := Lib.hid (insAll_len L)
  clear hu hl
  go_enter Try.func15, Try.ntmps15
  go_wp2_with (first
    | (at_builtin; refine wp_clone64 rfl (.tmp 4) (.tmp 5) rfl w.heap.size rfl _ rfl L HS.out HL.out (Blk.new _ _ _) ?_; intro g' c' w2 hH hg; have D := Lib.hid (((Below.refl w.heap.size w).alloc (Nat.le_refl _) _).grown hg (by simp) fun k hk => by cases hk); clear hg)
    | (go_at_call 30; (with_reducible refine (SortFunc_c _ _ _ _ L HU.out _ hH.out (by have := HL.out; omega)).mono ?_); rintro e w3 ⟨rfl, hg3, hO3⟩; have Q := Lib.hid hO3; have D := Lib.hid (D.out.grown hg3 D.out.size fun k hk => (Own.lt hH.out k hk).1); clear hg3 hO3))
  go_ret
  unfold RetO
  rw [HE.out]
  exact ⟨_, _, rfl, Q.out, D.out⟩
end AC
end Go.Proofs.Ytlcelocjfmclkaa
