/-
  The reference: are limbs right? (LimbsRight, over a list of lists of limbs.)
-/
import Derived.Test.YtjihapnplfdmmaaZ9
namespace Go.Proofs.Ytjihapnplfdmmaa
open Go.RowKit
set_option linter.unusedVariables false
namespace ZC
open Z
/-- what is told of one list of limbs: 2 too long, 3 a nought at its end, 0 right -/
def right (l : List Int) : Int := if 400 < l.length then 2 else if l.getLast? = some 0 then 3 else 0
def rights : List (List Int) → Int
  | [] => 0
  | l :: r => if right l = 0 then rights r else right l
/-- a slice of slices of limbs -/
def SS (w : World) (v : Value) (LL : List (List Int)) : Prop :=
  ∃ A c, v = .slice A LL.length c ∧ LL.length ≤ c ∧ ∀ j (h : j < LL.length), ∃ ad s, A = some ad ∧ w.cell? (ad.add j) = some s ∧ Sl .u32 w s LL[j]
theorem rights_drop {LL : List (List Int)} {k : Nat} (hk : k < LL.length) : rights (LL.drop k) = if right LL[k] = 0 then rights (LL.drop (k + 1)) else right LL[k] := by
  rw [List.drop_eq_getElem_cons hk]; rfl
theorem LimbsRight_c (v : Value) (LL : List (List Int)) (w : World) (hs : SS w v LL) (hn : LL.length ≤ 1000) (hl : ∀ l ∈ LL, l.length ≤ 9223372036854775807) :
    Calls Try.prog 9 #[v] w (RetQ w (.int .i64 (rights LL))) := by
  obtain ⟨A, c, rfl, hc, hcell⟩ := hs
  obtain ⟨n, en⟩ : ∃ n, n = LL.length := ⟨_, rfl⟩
  rw [← en] at hc hn ⊢
  have EN := Lib.hid en
  have HC := Lib.hid hcell
  have HL := Lib.hid hl
  clear en hcell hl
  go_enter Try.func9, Try.ntmps9
  go_wp2
  go_loop [7] (fun i => ∃ k : Nat, k ≤ n ∧ i = .int .i64 k ∧ Hid (rights (LL.drop k) = rights LL)) (fun i => n - (intOf i).toNat)
  case atStart => exact ⟨0, by omega, rfl, rfl⟩
  case round =>
    obtain ⟨k, hk, rfl, hr⟩ := hrel
    by_cases hkn : k < n
    · have hk' : k < LL.length := by rw [← EN.out]; exact hkn
      obtain ⟨ad, s, rfl, hs, hsl⟩ := HC.out k hk'
      have hlen := HL.out LL[k] (List.getElem_mem hk')
      have hd := rights_drop hk'
      rw [hr.out] at hd
      obtain ⟨l, el⟩ : ∃ l, l = LL[k] := ⟨_, rfl⟩
      rw [← el] at hsl hlen hd
      have HD := Lib.hid hd
      clear hd el
      obtain ⟨A', c', rfl, hc', _⟩ := hsl.open_
      obtain ⟨m, em⟩ : ∃ m, m = l.length := ⟨_, rfl⟩
      by_cases h4 : 400 < l.length
      · have hr2 : right l = 2 := by unfold right; rw [if_pos h4]
        have HD2 := HD.out
        rw [hr2] at HD2
        have HD3 := Lib.hid HD2
        rw [← em] at hs h4 hlen hc'
        clear hr2 HD2 HD em hsl
        go_wp2
        go_ret
        exact ⟨ret_int (by rw [HD3.out]; rfl), 0, rfl⟩
      · by_cases hne : l = []
        · have hr2 : right l = 0 := by subst hne; rfl
          have HD2 := HD.out
          rw [hr2] at HD2
          have HD3 := Lib.hid HD2
          have m0 : m = 0 := by rw [em, hne]; rfl
          rw [← em] at hs h4 hlen hc'
          subst m0
          clear hr2 HD2 HD em hsl hne
          go_wp2
          go_round
          case rel => exact ⟨k + 1, by omega, by simp, by have := HD3.out; simp at this; exact this.symm⟩
          case measure => simp [intOf]; omega
        · obtain ⟨ad', c'', e', _, hb', hcell'⟩ := hsl.last hne
          injection e' with e1 e2 e3
          subst e1
          subst e3
          clear e2
          obtain ⟨d, hd⟩ : ∃ d, d = l.getLast hne := ⟨_, rfl⟩
          rw [← hd] at hcell'
          have h1 : 1 ≤ l.length := List.length_pos_iff.2 hne
          rw [← em] at hs h4 hlen hc' h1 hcell'
          by_cases hd0 : d = 0
          · have hr2 : right l = 3 := by unfold right; rw [if_neg (by omega), if_pos (by rw [List.getLast?_eq_some_getLast hne, ← hd, hd0])]
            have HD2 := HD.out
            rw [hr2] at HD2
            have HD3 := Lib.hid HD2
            have e1 : (d == 0) = true := by simp [hd0]
            clear hr2 HD2 HD em hsl hd hd0
            go_wp2
            go_ret
            exact ⟨ret_int (by rw [HD3.out]; rfl), 0, rfl⟩
          · have hr2 : right l = 0 := by unfold right; rw [if_neg (by omega), if_neg (by rw [List.getLast?_eq_some_getLast hne, ← hd]; simpa using hd0)]
            have HD2 := HD.out
            rw [hr2] at HD2
            have HD3 := Lib.hid HD2
            have e1 : (d == 0) = false := by simp [hd0]
            clear hr2 HD2 HD em hsl hd hd0
            go_wp2
            go_round
            case rel => exact ⟨k + 1, by omega, by simp, by have := HD3.out; simp at this; exact this.symm⟩
            case measure => simp [intOf]; omega
    · have hz : rights (LL.drop k) = 0 := by rw [List.drop_of_length_le (by have := EN.out; omega)]; rfl
      rw [hr.out] at hz
      have HZ := Lib.hid hz
      clear hz hr
      go_wp2
      go_ret
      exact ⟨ret_int (by rw [HZ.out]), 0, rfl⟩
end ZC
end Go.Proofs.Ytjihapnplfdmmaa
