/-
  The walk of garmentlaw04.MeasureUnits: it returns true, whatever the input.
-/
import Derived.Test.YtohlilgnognmgaaGreatDoorMeaU
namespace Go.Proofs.YtohlilgnognmgaaGreatDoor
open Go.RowKit Mea
attribute [local go_sem ↓] Go.wp_at_zero Go.wp_at_succ
set_option linter.unusedVariables false

set_option maxRecDepth 20000 in
set_option maxHeartbeats 8000000 in
theorem measureUnits_long_a {ba : Bool} {Aa : Option Addr} {na ca : Nat} {Ba : Option Addr} {ma da : Nat} (w : World) (hl : 24 < na ∨ 24 < ma) (ht : Tab w) :
    Calls Tryz.prog 3 #[.agg #[.bool ba, .slice Aa na ca, .slice Ba ma da]] w (BoolEnd true w) := by
  have HT := Lib.hid ht
  clear ht
  have B0 := below_a1 w (.cells #[.bool ba, .slice Aa na ca, .slice Ba ma da] 27)
  have ka := (Bq.new w (w.heap.size) (by simp) (.bool ba) (.slice Aa na ca) (.slice Ba ma da))
  go_enter Tryz.func3, Tryz.ntmps3
  have ka_0 := ka.c0
  have ka_1 := ka.c1
  have ka_2 := ka.c2
  go_wp2_with fail
  refine (light_not ba Aa na ca Ba ma da _ _ (by omega)).mono ?_
  clear ka_0 ka_1 ka_2
  rintro e w1 ⟨rfl, bb⟩
  have ka := ka.below bb
  have B0 := B0.trans (bb.mono B0.size)
  clear bb
  have ka_0 := ka.c0
  have ka_1 := ka.c1
  have ka_2 := ka.c2
  go_wp2_with fail
  refine (alive_walk _ (HT.out.below B0)).mono ?_
  clear ka_0 ka_1 ka_2
  rintro e w2 ⟨rfl, bb⟩
  have ka := ka.below bb
  have B0 := B0.trans (bb.mono B0.size)
  clear bb
  go_wp2
  go_ret
  exact ⟨rfl, B0⟩
set_option maxRecDepth 20000 in
set_option maxHeartbeats 8000000 in
theorem measureUnits_ok {ba : Bool} {Aa : Option Addr} {na ca : Nat} {Ba : Option Addr} {ma da : Nat} {xa : Rat} (w : World) (ha : Qv w (.agg #[.bool ba, .slice Aa na ca, .slice Ba ma da]) xa na ma) (h1 : na ≤ 24 ∧ ma ≤ 24) (hz : (-1048576 ≤ RatN.roundQ xa ∧ RatN.roundQ xa ≤ 1048576)) (ht : Tab w) :
    Calls Tryz.prog 3 #[.agg #[.bool ba, .slice Aa na ca, .slice Ba ma da]] w (BoolEnd true w) := by
  have HT := Lib.hid ht
  clear ht
  have HZ := Lib.hid hz
  clear hz
  have B0 := below_a1 w (.cells #[.bool ba, .slice Aa na ca, .slice Ba ma da] 27)
  have ha := ha.below B0
  have ka := (Bq.new w (w.heap.size) (by simp) (.bool ba) (.slice Aa na ca) (.slice Ba ma da))
  go_enter Tryz.func3, Tryz.ntmps3
  have ka_0 := ka.c0
  have ka_1 := ka.c1
  have ka_2 := ka.c2
  go_wp2_with fail
  refine (light_yes ba Aa na ca Ba ma da _ _ (by omega) (by omega)).mono ?_
  clear ka_0 ka_1 ka_2
  rintro e w1 ⟨rfl, bb⟩
  have ha := ha.below bb
  have ka := ka.below bb
  have B0 := B0.trans (bb.mono B0.size)
  clear bb
  have ka_0 := ka.c0
  have ka_1 := ka.c1
  have ka_2 := ka.c2
  go_wp2_with fail
  refine (munits_ok ha (by omega) (by omega) HZ.out).mono ?_
  clear ka_0 ka_1 ka_2
  rintro e w2 ⟨rfl, bb⟩
  have ha := ha.below bb
  have ka := ka.below bb
  have B0 := B0.trans (bb.mono B0.size)
  clear bb
  have ka_0 := ka.c0
  have ka_1 := ka.c1
  have ka_2 := ka.c2
  go_wp2_with fail
  refine (runits_ok ha (by omega) (by omega) HZ.out).mono ?_
  clear ka_0 ka_1 ka_2
  rintro e w3 ⟨rfl, bb⟩
  have ha := ha.below bb
  have ka := ka.below bb
  have B0 := B0.trans (bb.mono B0.size)
  clear bb
  have ka_0 := ka.c0
  have ka_1 := ka.c1
  have ka_2 := ka.c2
  go_wp2_with fail
  refine (alive_walk _ (HT.out.below B0)).mono ?_
  clear ka_0 ka_1 ka_2
  rintro e w4 ⟨rfl, bb⟩
  have ha := ha.below bb
  have ka := ka.below bb
  have B0 := B0.trans (bb.mono B0.size)
  clear bb
  go_wp2
  go_ret
  exact ⟨rfl, B0⟩
set_option maxRecDepth 20000 in
set_option maxHeartbeats 8000000 in
theorem measureUnits_err {ba : Bool} {Aa : Option Addr} {na ca : Nat} {Ba : Option Addr} {ma da : Nat} {xa : Rat} (w : World) (ha : Qv w (.agg #[.bool ba, .slice Aa na ca, .slice Ba ma da]) xa na ma) (h1 : na ≤ 24 ∧ ma ≤ 24) (hz : ¬ (-1048576 ≤ RatN.roundQ xa ∧ RatN.roundQ xa ≤ 1048576)) (ht : Tab w) :
    Calls Tryz.prog 3 #[.agg #[.bool ba, .slice Aa na ca, .slice Ba ma da]] w (BoolEnd true w) := by
  have HT := Lib.hid ht
  clear ht
  have HZ := Lib.hid hz
  clear hz
  have B0 := below_a1 w (.cells #[.bool ba, .slice Aa na ca, .slice Ba ma da] 27)
  have ha := ha.below B0
  have ka := (Bq.new w (w.heap.size) (by simp) (.bool ba) (.slice Aa na ca) (.slice Ba ma da))
  go_enter Tryz.func3, Tryz.ntmps3
  have ka_0 := ka.c0
  have ka_1 := ka.c1
  have ka_2 := ka.c2
  go_wp2_with fail
  refine (light_yes ba Aa na ca Ba ma da _ _ (by omega) (by omega)).mono ?_
  clear ka_0 ka_1 ka_2
  rintro e w1 ⟨rfl, bb⟩
  have ha := ha.below bb
  have ka := ka.below bb
  have B0 := B0.trans (bb.mono B0.size)
  clear bb
  have ka_0 := ka.c0
  have ka_1 := ka.c1
  have ka_2 := ka.c2
  go_wp2_with fail
  refine (munits_err ha (by omega) (by omega) HZ.out).mono ?_
  clear ka_0 ka_1 ka_2
  rintro e w2 ⟨rfl, bb⟩
  have ha := ha.below bb
  have ka := ka.below bb
  have B0 := B0.trans (bb.mono B0.size)
  clear bb
  have ka_0 := ka.c0
  have ka_1 := ka.c1
  have ka_2 := ka.c2
  go_wp2_with fail
  refine (runits_err ha (by omega) (by omega) HZ.out).mono ?_
  clear ka_0 ka_1 ka_2
  rintro e w3 ⟨rfl, bb⟩
  have ha := ha.below bb
  have ka := ka.below bb
  have B0 := B0.trans (bb.mono B0.size)
  clear bb
  have ka_0 := ka.c0
  have ka_1 := ka.c1
  have ka_2 := ka.c2
  go_wp2_with fail
  refine (alive_walk _ (HT.out.below B0)).mono ?_
  clear ka_0 ka_1 ka_2
  rintro e w4 ⟨rfl, bb⟩
  have ha := ha.below bb
  have ka := ka.below bb
  have B0 := B0.trans (bb.mono B0.size)
  clear bb
  go_wp2
  go_ret
  exact ⟨rfl, B0⟩
theorem measureUnits_walk {va : Value} {xa : Rat} {ka ja : Nat} (w : World) (ha : Qv w va xa ka ja) (ht : Tab w) : Calls Tryz.prog 3 #[va] w (BoolEnd true w) := by
  obtain ⟨ba, Aa, na, ca, Ba, ma, da, rfl, _, _, ha⟩ := ha.named
  by_cases la : 24 < na ∨ 24 < ma
  · exact measureUnits_long_a w la ht
  by_cases hz : -1048576 ≤ RatN.roundQ xa ∧ RatN.roundQ xa ≤ 1048576
  · exact measureUnits_ok w ha (by omega) hz ht
  · exact measureUnits_err w ha (by omega) hz ht
end Go.Proofs.YtohlilgnognmgaaGreatDoor
