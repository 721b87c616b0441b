/-
  The walk of garmentlaw02.IntegerOrders: it returns true, whatever the integers.
-/
import Derived.Test.YthcoemkbdllcfaaDoorLawA
import Derived.Test.YthcoemkbdllcfaaDoorLawOrdG
import Derived.Test.YthcoemkbdllcfaaDoorLawOrdE
import Derived.Test.YthcoemkbdllcfaaDoorLawOrdL
import Derived.Deep.RegionWith
namespace Go.Proofs.YthcoemkbdllcfaaDoor
open Go.RowKit
attribute [local go_sem ↓] Go.wp_at_zero Go.wp_at_succ
set_option linter.unusedVariables false

set_option maxRecDepth 20000 in
set_option maxHeartbeats 8000000 in
theorem integerOrders_long_a {ba : Bool} {Aa : Option Addr} {na ca : Nat} {bb : Bool} {Ab : Option Addr} {nb cb : Nat} {bc : Bool} {Ac : Option Addr} {nc cc : Nat} (w : World) (hl : 30 < na) (ht : Tab w) :
    Calls Tryd.prog 9 #[.agg #[.bool ba, .slice Aa na ca], .agg #[.bool bb, .slice Ab nb cb], .agg #[.bool bc, .slice Ac nc cc]] w (BoolEnd true w) := by
  have HT := Lib.hid ht
  clear ht
  have B0 := below_a3 w (.cells #[.bool ba, .slice Aa na ca] 25) (.cells #[.bool bb, .slice Ab nb cb] 25) (.cells #[.bool bc, .slice Ac nc cc] 25)
  have ka := (((Bx.new w (w.heap.size) (by simp) (.bool ba) (.slice Aa na ca)).below (below_alloc (w.alloc (.cells #[.bool ba, .slice Aa na ca] 25)) (.cells #[.bool bb, .slice Ab nb cb] 25))).below (below_alloc ((w.alloc (.cells #[.bool ba, .slice Aa na ca] 25)).alloc (.cells #[.bool bb, .slice Ab nb cb] 25)) (.cells #[.bool bc, .slice Ac nc cc] 25)))
  have kb := ((Bx.new (w.alloc (.cells #[.bool ba, .slice Aa na ca] 25)) (w.heap.size + 1) (by simp) (.bool bb) (.slice Ab nb cb)).below (below_alloc ((w.alloc (.cells #[.bool ba, .slice Aa na ca] 25)).alloc (.cells #[.bool bb, .slice Ab nb cb] 25)) (.cells #[.bool bc, .slice Ac nc cc] 25)))
  have kc := (Bx.new ((w.alloc (.cells #[.bool ba, .slice Aa na ca] 25)).alloc (.cells #[.bool bb, .slice Ab nb cb] 25)) (w.heap.size + 1 + 1) (by simp) (.bool bc) (.slice Ac nc cc))
  go_enter Tryd.func9, Tryd.ntmps9
  have ka0 := ka.1
  have ka1 := ka.2
  have kb0 := kb.1
  have kb1 := kb.2
  have kc0 := kc.1
  have kc1 := kc.2
  go_wp2_with fail
  refine (rshort_no ba Aa na ca _ _ (by omega)).mono ?_
  clear ka0 ka1 kb0 kb1 kc0 kc1
  rintro e w1 ⟨rfl, bb⟩
  have ka := ka.below bb
  have kb := kb.below bb
  have kc := kc.below bb
  have B0 := B0.trans (bb.mono B0.size)
  clear bb
  have ka0 := ka.1
  have ka1 := ka.2
  have kb0 := kb.1
  have kb1 := kb.2
  have kc0 := kc.1
  have kc1 := kc.2
  go_wp2_with fail
  refine (awake_walk _ (HT.out.below B0)).mono ?_
  clear ka0 ka1 kb0 kb1 kc0 kc1
  rintro e w2 ⟨rfl, bb⟩
  have ka := ka.below bb
  have kb := kb.below bb
  have kc := kc.below bb
  have B0 := B0.trans (bb.mono B0.size)
  clear bb
  go_wp2
  go_ret
  exact ⟨rfl, B0⟩
set_option maxRecDepth 20000 in
set_option maxHeartbeats 8000000 in
theorem integerOrders_long_b {ba : Bool} {Aa : Option Addr} {na ca : Nat} {bb : Bool} {Ab : Option Addr} {nb cb : Nat} {bc : Bool} {Ac : Option Addr} {nc cc : Nat} (w : World) (ha : na ≤ 30) (hl : 30 < nb) (ht : Tab w) :
    Calls Tryd.prog 9 #[.agg #[.bool ba, .slice Aa na ca], .agg #[.bool bb, .slice Ab nb cb], .agg #[.bool bc, .slice Ac nc cc]] w (BoolEnd true w) := by
  have HT := Lib.hid ht
  clear ht
  have B0 := below_a3 w (.cells #[.bool ba, .slice Aa na ca] 25) (.cells #[.bool bb, .slice Ab nb cb] 25) (.cells #[.bool bc, .slice Ac nc cc] 25)
  have ka := (((Bx.new w (w.heap.size) (by simp) (.bool ba) (.slice Aa na ca)).below (below_alloc (w.alloc (.cells #[.bool ba, .slice Aa na ca] 25)) (.cells #[.bool bb, .slice Ab nb cb] 25))).below (below_alloc ((w.alloc (.cells #[.bool ba, .slice Aa na ca] 25)).alloc (.cells #[.bool bb, .slice Ab nb cb] 25)) (.cells #[.bool bc, .slice Ac nc cc] 25)))
  have kb := ((Bx.new (w.alloc (.cells #[.bool ba, .slice Aa na ca] 25)) (w.heap.size + 1) (by simp) (.bool bb) (.slice Ab nb cb)).below (below_alloc ((w.alloc (.cells #[.bool ba, .slice Aa na ca] 25)).alloc (.cells #[.bool bb, .slice Ab nb cb] 25)) (.cells #[.bool bc, .slice Ac nc cc] 25)))
  have kc := (Bx.new ((w.alloc (.cells #[.bool ba, .slice Aa na ca] 25)).alloc (.cells #[.bool bb, .slice Ab nb cb] 25)) (w.heap.size + 1 + 1) (by simp) (.bool bc) (.slice Ac nc cc))
  go_enter Tryd.func9, Tryd.ntmps9
  have ka0 := ka.1
  have ka1 := ka.2
  have kb0 := kb.1
  have kb1 := kb.2
  have kc0 := kc.1
  have kc1 := kc.2
  go_wp2_with fail
  refine (rshort_yes ba Aa na ca _ _ (by omega)).mono ?_
  clear ka0 ka1 kb0 kb1 kc0 kc1
  rintro e w1 ⟨rfl, bb⟩
  have ka := ka.below bb
  have kb := kb.below bb
  have kc := kc.below bb
  have B0 := B0.trans (bb.mono B0.size)
  clear bb
  have ka0 := ka.1
  have ka1 := ka.2
  have kb0 := kb.1
  have kb1 := kb.2
  have kc0 := kc.1
  have kc1 := kc.2
  go_wp2_with fail
  refine (rshort_no bb Ab nb cb _ _ (by omega)).mono ?_
  clear ka0 ka1 kb0 kb1 kc0 kc1
  rintro e w2 ⟨rfl, bb⟩
  have ka := ka.below bb
  have kb := kb.below bb
  have kc := kc.below bb
  have B0 := B0.trans (bb.mono B0.size)
  clear bb
  have ka0 := ka.1
  have ka1 := ka.2
  have kb0 := kb.1
  have kb1 := kb.2
  have kc0 := kc.1
  have kc1 := kc.2
  go_wp2_with fail
  refine (awake_walk _ (HT.out.below B0)).mono ?_
  clear ka0 ka1 kb0 kb1 kc0 kc1
  rintro e w3 ⟨rfl, bb⟩
  have ka := ka.below bb
  have kb := kb.below bb
  have kc := kc.below bb
  have B0 := B0.trans (bb.mono B0.size)
  clear bb
  go_wp2
  go_ret
  exact ⟨rfl, B0⟩
set_option maxRecDepth 20000 in
set_option maxHeartbeats 8000000 in
theorem integerOrders_long_c {ba : Bool} {Aa : Option Addr} {na ca : Nat} {bb : Bool} {Ab : Option Addr} {nb cb : Nat} {bc : Bool} {Ac : Option Addr} {nc cc : Nat} (w : World) (ha : na ≤ 30) (hb : nb ≤ 30) (hl : 30 < nc) (ht : Tab w) :
    Calls Tryd.prog 9 #[.agg #[.bool ba, .slice Aa na ca], .agg #[.bool bb, .slice Ab nb cb], .agg #[.bool bc, .slice Ac nc cc]] w (BoolEnd true w) := by
  have HT := Lib.hid ht
  clear ht
  have B0 := below_a3 w (.cells #[.bool ba, .slice Aa na ca] 25) (.cells #[.bool bb, .slice Ab nb cb] 25) (.cells #[.bool bc, .slice Ac nc cc] 25)
  have ka := (((Bx.new w (w.heap.size) (by simp) (.bool ba) (.slice Aa na ca)).below (below_alloc (w.alloc (.cells #[.bool ba, .slice Aa na ca] 25)) (.cells #[.bool bb, .slice Ab nb cb] 25))).below (below_alloc ((w.alloc (.cells #[.bool ba, .slice Aa na ca] 25)).alloc (.cells #[.bool bb, .slice Ab nb cb] 25)) (.cells #[.bool bc, .slice Ac nc cc] 25)))
  have kb := ((Bx.new (w.alloc (.cells #[.bool ba, .slice Aa na ca] 25)) (w.heap.size + 1) (by simp) (.bool bb) (.slice Ab nb cb)).below (below_alloc ((w.alloc (.cells #[.bool ba, .slice Aa na ca] 25)).alloc (.cells #[.bool bb, .slice Ab nb cb] 25)) (.cells #[.bool bc, .slice Ac nc cc] 25)))
  have kc := (Bx.new ((w.alloc (.cells #[.bool ba, .slice Aa na ca] 25)).alloc (.cells #[.bool bb, .slice Ab nb cb] 25)) (w.heap.size + 1 + 1) (by simp) (.bool bc) (.slice Ac nc cc))
  go_enter Tryd.func9, Tryd.ntmps9
  have ka0 := ka.1
  have ka1 := ka.2
  have kb0 := kb.1
  have kb1 := kb.2
  have kc0 := kc.1
  have kc1 := kc.2
  go_wp2_with fail
  refine (rshort_yes ba Aa na ca _ _ (by omega)).mono ?_
  clear ka0 ka1 kb0 kb1 kc0 kc1
  rintro e w1 ⟨rfl, bb⟩
  have ka := ka.below bb
  have kb := kb.below bb
  have kc := kc.below bb
  have B0 := B0.trans (bb.mono B0.size)
  clear bb
  have ka0 := ka.1
  have ka1 := ka.2
  have kb0 := kb.1
  have kb1 := kb.2
  have kc0 := kc.1
  have kc1 := kc.2
  go_wp2_with fail
  refine (rshort_yes bb Ab nb cb _ _ (by omega)).mono ?_
  clear ka0 ka1 kb0 kb1 kc0 kc1
  rintro e w2 ⟨rfl, bb⟩
  have ka := ka.below bb
  have kb := kb.below bb
  have kc := kc.below bb
  have B0 := B0.trans (bb.mono B0.size)
  clear bb
  have ka0 := ka.1
  have ka1 := ka.2
  have kb0 := kb.1
  have kb1 := kb.2
  have kc0 := kc.1
  have kc1 := kc.2
  go_wp2_with fail
  refine (rshort_no bc Ac nc cc _ _ (by omega)).mono ?_
  clear ka0 ka1 kb0 kb1 kc0 kc1
  rintro e w3 ⟨rfl, bb⟩
  have ka := ka.below bb
  have kb := kb.below bb
  have kc := kc.below bb
  have B0 := B0.trans (bb.mono B0.size)
  clear bb
  have ka0 := ka.1
  have ka1 := ka.2
  have kb0 := kb.1
  have kb1 := kb.2
  have kc0 := kc.1
  have kc1 := kc.2
  go_wp2_with fail
  refine (awake_walk _ (HT.out.below B0)).mono ?_
  clear ka0 ka1 kb0 kb1 kc0 kc1
  rintro e w4 ⟨rfl, bb⟩
  have ka := ka.below bb
  have kb := kb.below bb
  have kc := kc.below bb
  have B0 := B0.trans (bb.mono B0.size)
  clear bb
  go_wp2
  go_ret
  exact ⟨rfl, B0⟩
theorem integerOrders_walk {va : Value} {a : Int} {ka : Nat} {vb : Value} {b : Int} {kb : Nat} {vc : Value} {c : Int} {kc : Nat} (w : World) (ha : Iv w va a ka) (hb : Iv w vb b kb) (hc : Iv w vc c kc) (ht : Tab w) : Calls Tryd.prog 9 #[va, vb, vc] w (BoolEnd true w) := by
  obtain ⟨ba, Aa, na, ca, rfl, _, ha⟩ := ha.named
  obtain ⟨bb, Ab, nb, cb, rfl, _, hb⟩ := hb.named
  obtain ⟨bc, Ac, nc, cc, rfl, _, hc⟩ := hc.named
  by_cases la : 30 < na
  · exact integerOrders_long_a w la ht
  by_cases lb : 30 < nb
  · exact integerOrders_long_b w (by omega) lb ht
  by_cases lc : 30 < nc
  · exact integerOrders_long_c w (by omega) (by omega) lc ht
  rcases cmpZ_cases a b with ⟨_, ho⟩ | ⟨_, ho⟩ | ⟨_, ho⟩
  · by_cases hp : 0 < cmpZ b c
    · exact integerOrders_lp w ha hb hc (by omega) (by omega) (by omega) ho hp ht
    · exact integerOrders_lq w ha hb hc (by omega) (by omega) (by omega) ho (by omega) ht
  · by_cases hp : 0 < cmpZ b c
    · exact integerOrders_ep w ha hb hc (by omega) (by omega) (by omega) ho hp ht
    · exact integerOrders_eq w ha hb hc (by omega) (by omega) (by omega) ho (by omega) ht
  · exact integerOrders_gx w ha hb hc (by omega) (by omega) (by omega) ho ht
end Go.Proofs.YthcoemkbdllcfaaDoor
