/-
  The walk of garmentlaw03.RatioIntegers: it returns true, whatever the input.
-/
import Derived.Test.YtfdildganfjahaaGreatDoorRatE
import Derived.Test.YtfdildganfjahaaGreatDoorRRatT
namespace Go.Proofs.YtfdildganfjahaaGreatDoor
open Go.RowKit
attribute [local go_sem ↓] Go.wp_at_zero Go.wp_at_succ
set_option linter.unusedVariables false

set_option maxRecDepth 20000 in
set_option maxHeartbeats 8000000 in
theorem ratioIntegers_long_a {ba : Bool} {Aa : Option Addr} {na ca : Nat} {Ba : Option Addr} {ma da : Nat} (w : World) (hl : 10 < na ∨ 10 < ma) (ht : Tab w) :
    Calls Tryz.prog 5 #[.agg #[.bool ba, .slice Aa na ca, .slice Ba ma da]] w (BoolEnd true w) := by
  have HT := Lib.hid ht
  clear ht
  have B0 := below_a1 w (.cells #[.bool ba, .slice Aa na ca, .slice Ba ma da] 27)
  have ka := (Bq.new w (w.heap.size) (by simp) (.bool ba) (.slice Aa na ca) (.slice Ba ma da))
  go_enter Tryz.func5, Tryz.ntmps5
  have ka_0 := ka.c0
  have ka_1 := ka.c1
  have ka_2 := ka.c2
  go_wp2_with fail
  refine (light_not ba Aa na ca Ba ma da _ _ (by omega)).mono ?_
  clear ka_0 ka_1 ka_2
  rintro e w1 ⟨rfl, bb⟩
  have ka := ka.below bb
  have B0 := B0.trans (bb.mono B0.size)
  clear bb
  have ka_0 := ka.c0
  have ka_1 := ka.c1
  have ka_2 := ka.c2
  go_wp2_with fail
  refine (example_walk _ (HT.out.below B0)).mono ?_
  clear ka_0 ka_1 ka_2
  rintro e w2 ⟨rfl, bb⟩
  have ka := ka.below bb
  have B0 := B0.trans (bb.mono B0.size)
  clear bb
  go_wp2
  go_ret
  exact ⟨rfl, B0⟩
set_option maxRecDepth 20000 in
set_option maxHeartbeats 8000000 in
theorem ratioIntegers_all {ba : Bool} {Aa : Option Addr} {na ca : Nat} {Ba : Option Addr} {ma da : Nat} {xa : Rat} (w : World) (ha : Qv w (.agg #[.bool ba, .slice Aa na ca, .slice Ba ma da]) xa na ma) (h1 : na ≤ 10 ∧ ma ≤ 10) (ht : Tab w) :
    Calls Tryz.prog 5 #[.agg #[.bool ba, .slice Aa na ca, .slice Ba ma da]] w (BoolEnd true w) := by
  have HT := Lib.hid ht
  clear ht
  obtain ⟨t, hx⟩ : ∃ t : ByteArray, t.data.toList = RatN.qdec xa := ⟨⟨(RatN.qdec xa).toArray⟩, rfl⟩
  have HX := Lib.hid hx
  clear hx
  have B0 := below_a1 w (.cells #[.bool ba, .slice Aa na ca, .slice Ba ma da] 27)
  have ha := ha.below B0
  have ka := (Bq.new w (w.heap.size) (by simp) (.bool ba) (.slice Aa na ca) (.slice Ba ma da))
  go_enter Tryz.func5, Tryz.ntmps5
  have ka_0 := ka.c0
  have ka_1 := ka.c1
  have ka_2 := ka.c2
  go_wp2_with fail
  refine (light_yes ba Aa na ca Ba ma da _ _ (by omega) (by omega)).mono ?_
  clear ka_0 ka_1 ka_2
  rintro e w1 ⟨rfl, bb⟩
  have ha := ha.below bb
  have ka := ka.below bb
  have B0 := B0.trans (bb.mono B0.size)
  clear bb
  go_wp2_with fail
  have ha := ha.drew
  have ka := ka.drew
  have B0 := b_drew B0
  go_region_held3 (fun w' => w'.cell? ⟨w.heap.size, 0, none⟩ = some (.bool ba) ∧ w'.cell? ⟨w.heap.size, 1, none⟩ = some (.slice Aa na ca) ∧ w'.cell? ⟨w.heap.size, 2, none⟩ = some (.slice Ba ma da)) (first | with_reducible exact ⟨ka.c0, ka.c1, ka.c2⟩)
    (first
      | (go_at_call 28; (with_reducible refine (qfloor_q ha ?_ ?_).mono ?_); omega; omega; rintro e w2 ⟨v1, rfl, z1, bb⟩; have ha := ha.below bb; have ka := ka.below bb; have B0 := B0.trans (bb.mono B0.size); clear bb)
      | (go_at_call 29; (with_reducible refine (rqfloor_q ha ?_ ?_).mono ?_); omega; omega; rintro e w3 ⟨v2, rfl, z2, bb⟩; have ha := ha.below bb; have ka := ka.below bb; have z1 := z1.below bb; have B0 := B0.trans (bb.mono B0.size); clear bb)
      | (go_at_call 27; (with_reducible refine (rsameint_i z1 z2 (rfl)).mono ?_); rintro e w4 ⟨rfl, bb⟩; have ha := ha.below bb; have ka := ka.below bb; have z1 := z1.below bb; have z2 := z2.below bb; have B0 := B0.trans (bb.mono B0.size); clear bb)
      | (go_at_call 30; (with_reducible refine (qround_q ha ?_ ?_).mono ?_); omega; omega; rintro e w5 ⟨v3, rfl, z3, bb⟩; have ha := ha.below bb; have ka := ka.below bb; have B0 := B0.trans (bb.mono B0.size); clear bb)
      | (go_at_call 31; (with_reducible refine (rqround_q ha ?_ ?_).mono ?_); omega; omega; rintro e w6 ⟨v4, rfl, z4, bb⟩; have ha := ha.below bb; have ka := ka.below bb; have z3 := z3.below bb; have B0 := B0.trans (bb.mono B0.size); clear bb)
      | (go_at_call 27; (with_reducible refine (rsameint_i z3 z4 (rfl)).mono ?_); rintro e w7 ⟨rfl, bb⟩; have ha := ha.below bb; have ka := ka.below bb; have z3 := z3.below bb; have z4 := z4.below bb; have B0 := B0.trans (bb.mono B0.size); clear bb)
      | (go_at_call 32; (with_reducible refine (qtext_q ha ?_ ?_ (HT.out.below B0) t HX.out).mono ?_); omega; omega; rintro e w8 ⟨rfl, bb⟩; have ha := ha.below bb; have ka := ka.below bb; have B0 := B0.trans (bb.mono B0.size); clear bb)
      | (go_at_call 33; (with_reducible refine (rqtext_q ha ?_ ?_ t HX.out).mono ?_); omega; omega; rintro e w9 ⟨rfl, bb⟩; have ha := ha.below bb; have ka := ka.below bb; have B0 := B0.trans (bb.mono B0.size); clear bb)
      | (go_at_call 8; (with_reducible refine (example_walk _ (HT.out.below B0)).mono ?_); rintro e w10 ⟨rfl, bb⟩; have ha := ha.below bb; have ka := ka.below bb; have B0 := B0.trans (bb.mono B0.size); clear bb))
  go_wp2
  go_ret
  exact ⟨rfl, B0⟩
theorem ratioIntegers_walk {va : Value} {xa : Rat} {ka ja : Nat} (w : World) (ha : Qv w va xa ka ja) (ht : Tab w) : Calls Tryz.prog 5 #[va] w (BoolEnd true w) := by
  obtain ⟨ba, Aa, na, ca, Ba, ma, da, rfl, _, _, ha⟩ := ha.named
  by_cases la : 10 < na ∨ 10 < ma
  · exact ratioIntegers_long_a w la ht
  exact ratioIntegers_all w ha (by omega) ht
end Go.Proofs.YtfdildganfjahaaGreatDoor
