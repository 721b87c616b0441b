/-
  The walk of garmentlaw02.IntegerForms: it returns true, whatever the integers.
-/
import Derived.Test.YthcoemkbdllcfaaDoorLawA
import Derived.Test.YthcoemkbdllcfaaDoorLawF
import Derived.Test.YthcoemkbdllcfaaDoorLawFS
import Derived.Test.YthcoemkbdllcfaaDoorLawFZ
import Derived.Deep.DeepCutAuto
namespace Go.Proofs.YthcoemkbdllcfaaDoor
open Go.RowKit
attribute [local go_sem ↓] Go.wp_at_zero Go.wp_at_succ
set_option linter.unusedVariables false

set_option maxRecDepth 20000 in
set_option maxHeartbeats 8000000 in
theorem integerForms_long_a {ba : Bool} {Aa : Option Addr} {na ca : Nat} {bb : Bool} {Ab : Option Addr} {nb cb : Nat} (w : World) {y : Nat} (hl : 30 < na) (ht : Tab w) :
    Calls Tryd.prog 11 #[.agg #[.bool ba, .slice Aa na ca], .agg #[.bool bb, .slice Ab nb cb], .int .u8 (y : Int)] w (BoolEnd true w) := by
  have HT := Lib.hid ht
  clear ht
  have B0 := below_a2 w (.cells #[.bool ba, .slice Aa na ca] 25) (.cells #[.bool bb, .slice Ab nb cb] 25)
  have ka := ((Bx.new w (w.heap.size) (by simp) (.bool ba) (.slice Aa na ca)).below (below_alloc (w.alloc (.cells #[.bool ba, .slice Aa na ca] 25)) (.cells #[.bool bb, .slice Ab nb cb] 25)))
  have kb := (Bx.new (w.alloc (.cells #[.bool ba, .slice Aa na ca] 25)) (w.heap.size + 1) (by simp) (.bool bb) (.slice Ab nb cb))
  go_enter Tryd.func11, Tryd.ntmps11
  have ka0 := ka.1
  have ka1 := ka.2
  have kb0 := kb.1
  have kb1 := kb.2
  go_wp2_with fail
  refine (rshort_no ba Aa na ca _ _ (by omega)).mono ?_
  clear ka0 ka1 kb0 kb1
  rintro e w1 ⟨rfl, bb⟩
  have ka := ka.below bb
  have kb := kb.below bb
  have B0 := B0.trans (bb.mono B0.size)
  clear bb
  have ka0 := ka.1
  have ka1 := ka.2
  have kb0 := kb.1
  have kb1 := kb.2
  go_wp2_with fail
  refine (awake_walk _ (HT.out.below B0)).mono ?_
  clear ka0 ka1 kb0 kb1
  rintro e w2 ⟨rfl, bb⟩
  have ka := ka.below bb
  have kb := kb.below bb
  have B0 := B0.trans (bb.mono B0.size)
  clear bb
  go_wp2
  go_ret
  exact ⟨rfl, B0⟩
set_option maxRecDepth 20000 in
set_option maxHeartbeats 8000000 in
theorem integerForms_long_b {ba : Bool} {Aa : Option Addr} {na ca : Nat} {bb : Bool} {Ab : Option Addr} {nb cb : Nat} (w : World) {y : Nat} (ha : na ≤ 30) (hl : 30 < nb) (ht : Tab w) :
    Calls Tryd.prog 11 #[.agg #[.bool ba, .slice Aa na ca], .agg #[.bool bb, .slice Ab nb cb], .int .u8 (y : Int)] w (BoolEnd true w) := by
  have HT := Lib.hid ht
  clear ht
  have B0 := below_a2 w (.cells #[.bool ba, .slice Aa na ca] 25) (.cells #[.bool bb, .slice Ab nb cb] 25)
  have ka := ((Bx.new w (w.heap.size) (by simp) (.bool ba) (.slice Aa na ca)).below (below_alloc (w.alloc (.cells #[.bool ba, .slice Aa na ca] 25)) (.cells #[.bool bb, .slice Ab nb cb] 25)))
  have kb := (Bx.new (w.alloc (.cells #[.bool ba, .slice Aa na ca] 25)) (w.heap.size + 1) (by simp) (.bool bb) (.slice Ab nb cb))
  go_enter Tryd.func11, Tryd.ntmps11
  have ka0 := ka.1
  have ka1 := ka.2
  have kb0 := kb.1
  have kb1 := kb.2
  go_wp2_with fail
  refine (rshort_yes ba Aa na ca _ _ (by omega)).mono ?_
  clear ka0 ka1 kb0 kb1
  rintro e w1 ⟨rfl, bb⟩
  have ka := ka.below bb
  have kb := kb.below bb
  have B0 := B0.trans (bb.mono B0.size)
  clear bb
  have ka0 := ka.1
  have ka1 := ka.2
  have kb0 := kb.1
  have kb1 := kb.2
  go_wp2_with fail
  refine (rshort_no bb Ab nb cb _ _ (by omega)).mono ?_
  clear ka0 ka1 kb0 kb1
  rintro e w2 ⟨rfl, bb⟩
  have ka := ka.below bb
  have kb := kb.below bb
  have B0 := B0.trans (bb.mono B0.size)
  clear bb
  have ka0 := ka.1
  have ka1 := ka.2
  have kb0 := kb.1
  have kb1 := kb.2
  go_wp2_with fail
  refine (awake_walk _ (HT.out.below B0)).mono ?_
  clear ka0 ka1 kb0 kb1
  rintro e w3 ⟨rfl, bb⟩
  have ka := ka.below bb
  have kb := kb.below bb
  have B0 := B0.trans (bb.mono B0.size)
  clear bb
  go_wp2
  go_ret
  exact ⟨rfl, B0⟩
set_option maxRecDepth 20000 in
set_option maxHeartbeats 8000000 in
theorem integerForms_long_z {ba : Bool} {Aa : Option Addr} {na ca : Nat} {bb : Bool} {Ab : Option Addr} {nb cb : Nat} (w : World) {y : Nat} (h1 : na ≤ 30) (h2 : nb ≤ 30) (hl : 5 < y) (hy : y < 256) (ht : Tab w) :
    Calls Tryd.prog 11 #[.agg #[.bool ba, .slice Aa na ca], .agg #[.bool bb, .slice Ab nb cb], .int .u8 (y : Int)] w (BoolEnd true w) := by
  have HT := Lib.hid ht
  clear ht
  have B0 := below_a2 w (.cells #[.bool ba, .slice Aa na ca] 25) (.cells #[.bool bb, .slice Ab nb cb] 25)
  have ka := ((Bx.new w (w.heap.size) (by simp) (.bool ba) (.slice Aa na ca)).below (below_alloc (w.alloc (.cells #[.bool ba, .slice Aa na ca] 25)) (.cells #[.bool bb, .slice Ab nb cb] 25)))
  have kb := (Bx.new (w.alloc (.cells #[.bool ba, .slice Aa na ca] 25)) (w.heap.size + 1) (by simp) (.bool bb) (.slice Ab nb cb))
  go_enter Tryd.func11, Tryd.ntmps11
  have ka0 := ka.1
  have ka1 := ka.2
  have kb0 := kb.1
  have kb1 := kb.2
  go_wp2_with fail
  refine (rshort_yes ba Aa na ca _ _ (by omega)).mono ?_
  clear ka0 ka1 kb0 kb1
  rintro e w1 ⟨rfl, bb⟩
  have ka := ka.below bb
  have kb := kb.below bb
  have B0 := B0.trans (bb.mono B0.size)
  clear bb
  have ka0 := ka.1
  have ka1 := ka.2
  have kb0 := kb.1
  have kb1 := kb.2
  go_wp2_with fail
  refine (rshort_yes bb Ab nb cb _ _ (by omega)).mono ?_
  clear ka0 ka1 kb0 kb1
  rintro e w2 ⟨rfl, bb⟩
  have ka := ka.below bb
  have kb := kb.below bb
  have B0 := B0.trans (bb.mono B0.size)
  clear bb
  have ka0 := ka.1
  have ka1 := ka.2
  have kb0 := kb.1
  have kb1 := kb.2
  go_wp2_with fail
  refine (awake_walk _ (HT.out.below B0)).mono ?_
  clear ka0 ka1 kb0 kb1
  rintro e w3 ⟨rfl, bb⟩
  have ka := ka.below bb
  have kb := kb.below bb
  have B0 := B0.trans (bb.mono B0.size)
  clear bb
  go_wp2
  go_ret
  exact ⟨rfl, B0⟩
theorem integerForms_walk (w : World) {va vb : Value} {a b : Int} {ka kb : Nat} (ha : Iv w va a ka) (hb : Iv w vb b kb) (y : Nat) (hy : y < 256) (ht : Tab w) : Calls Tryd.prog 11 #[va, vb, .int .u8 (y : Int)] w (BoolEnd true w) := by
  obtain ⟨ba, Aa, na, ca, rfl, _, ha⟩ := ha.named
  obtain ⟨bb, Ab, nb, cb, rfl, _, hb⟩ := hb.named
  by_cases la : 30 < na
  · exact integerForms_long_a w la ht
  by_cases lb : 30 < nb
  · exact integerForms_long_b w (by omega) lb ht
  by_cases ly : 5 < y
  · exact integerForms_long_z w (by omega) (by omega) ly hy ht
  have key : ∃ (q r : Int) (ok : Bool), (b = 0 ∧ q = 0 ∧ r = 0 ∧ ok = false) ∨ (b ≠ 0 ∧ q = a / b ∧ r = a % b ∧ ok = true) := by
    by_cases hb0 : b = 0
    · exact ⟨0, 0, false, .inl ⟨hb0, rfl, rfl, rfl⟩⟩
    · exact ⟨_, _, true, .inr ⟨hb0, rfl, rfl, rfl⟩⟩
  obtain ⟨q, r, ok, hu⟩ := key
  by_cases h0 : a = 0
  · exact integerForms_zero w ha hb (by omega) (by omega) (by omega) q r ok hu h0 ht
  · exact integerForms_some w ha hb (by omega) (by omega) (by omega) q r ok hu h0 ht
end Go.Proofs.YthcoemkbdllcfaaDoor
