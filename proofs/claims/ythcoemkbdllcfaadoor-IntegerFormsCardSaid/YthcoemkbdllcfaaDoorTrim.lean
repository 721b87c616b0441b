/-
  The walk of natural.trim.
-/
import Derived.Test.YthcoemkbdllcfaaDoorMem
import Derived.Test.YthcoemkbdllcfaaDoorRows
import Derived.WalkKit
import Derived.WalkSpells
import Derived.Lib.Hide
namespace Go.Proofs.YthcoemkbdllcfaaDoor
open Go.RowKit

set_option maxHeartbeats 400000 in
theorem trim_walk (S : Nat → Prop) (A : Option Addr) (n c : Nat) (l : List Nat) (w : World) (hn : n = l.length) (hlc : n ≤ c) (hc : c ≤ 9223372036854775807) (h : Cel w S A l) :
    Calls Tryd.prog 63 #[.slice A n c] w fun e w' => (∃ k, k ≤ n ∧ e = .returned (.slice A k c) ∧ Num.Zer l k ∧ Num.Nrm (l.take k)) ∧ w = w' := by
  have Hn := Lib.hid hn
  clear hn
  go_enter Tryd.func63, Tryd.ntmps63
  go_wp2
  go_loop [3] (fun i => ∃ k : Nat, k ≤ n ∧ i = .int .i64 k ∧ Num.Zer l k) (fun i => (intOf i).toNat)
  case atStart => exact ⟨n, Nat.le_refl _, rfl, by rw [Hn.out]; exact Num.Zer.top l⟩
  case round =>
    obtain ⟨k, hk, rfl, hz⟩ := hrel
    by_cases h0 : k = 0
    · have h0' : ¬ 0 < k := by omega
      clear h0
      go_wp2
      go_ret
      have e : k = 0 := by omega
      exact ⟨⟨k, hk, rfl, hz, by rw [e]; exact Num.nrm_take_zero l⟩, rfl⟩
    · have h0' : 0 < k := by omega
      have hkl : k - 1 < l.length := by have := Hn.out; omega
      obtain ⟨g, off, rfl, _, hcs⟩ := h (by omega)
      obtain ⟨x, hx⟩ : ∃ x, l[k - 1]? = some x := ⟨_, List.getElem?_eq_getElem hkl⟩
      have hcell := hcs _ _ hx
      have Hx := Lib.hid hx
      have Hk := Lib.hid hkl
      clear hx h0 hcs hkl h
      by_cases hx0 : x = 0
      · subst hx0
        go_wp2
        go_round
        case rel => exact ⟨k - 1, by omega, by go_num, Num.Zer.step (by rw [show k - 1 + 1 = k from by omega]; exact hz) Hx.out⟩
        case measure => simp [intOf]; omega
      · have hxb : ((x : Int) == 0) = false := by simp; omega
        go_wp2
        go_ret
        exact ⟨⟨k, hk, rfl, hz, by have := Num.nrm_take_of Hx.out hx0; rwa [show k - 1 + 1 = k from by omega] at this⟩, rfl⟩
end Go.Proofs.YthcoemkbdllcfaaDoor
