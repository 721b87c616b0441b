/-
  The walk of garmentlaw02.IntegerSums: it returns true, whatever the integers.
-/
import Derived.Test.YthcoemkbdllcfaaDoorLawA
import Derived.Test.YthcoemkbdllcfaaDoorRIntB
namespace Go.Proofs.YthcoemkbdllcfaaDoor
open Go.RowKit
attribute [local go_sem ↓] Go.wp_at_zero Go.wp_at_succ
set_option linter.unusedVariables false

set_option maxRecDepth 20000 in
set_option maxHeartbeats 8000000 in
theorem integerSums_long {ba bb' : Bool} {Aa Ab : Option Addr} {na ca nb cb : Nat} (w : World) (hl : 40 < na ∨ 40 < nb) (ht : Tab w) :
    Calls Tryd.prog 3 #[.agg #[.bool ba, .slice Aa na ca], .agg #[.bool bb', .slice Ab nb cb]] w (BoolEnd true w) := by
  have HT := Lib.hid ht
  clear ht
  have B0 := below_a2 w (.cells #[.bool ba, .slice Aa na ca] 25) (.cells #[.bool bb', .slice Ab nb cb] 25)
  have ka := ((Bx.new w (w.heap.size) (by simp) (.bool ba) (.slice Aa na ca)).below (below_alloc (w.alloc (.cells #[.bool ba, .slice Aa na ca] 25)) (.cells #[.bool bb', .slice Ab nb cb] 25)))
  have kb := (Bx.new (w.alloc (.cells #[.bool ba, .slice Aa na ca] 25)) (w.heap.size + 1) (by simp) (.bool bb') (.slice Ab nb cb))
  go_enter Tryd.func3, Tryd.ntmps3
  have ka0 := ka.1
  have ka1 := ka.2
  have kb0 := kb.1
  have kb1 := kb.2
  go_wp2_with fail
  refine (short_no ba bb' Aa Ab na ca nb cb _ hl).mono ?_
  clear ka0 ka1 kb0 kb1
  rintro e w1 ⟨rfl, bb⟩
  have ka := ka.below bb
  have kb := kb.below bb
  have B0 := B0.trans (bb.mono B0.size)
  clear bb
  have ka0 := ka.1
  have ka1 := ka.2
  have kb0 := kb.1
  have kb1 := kb.2
  go_wp2_with fail
  refine (awake_walk _ (HT.out.below B0)).mono ?_
  clear ka0 ka1 kb0 kb1
  rintro e w2 ⟨rfl, bb⟩
  have ka := ka.below bb
  have kb := kb.below bb
  have B0 := B0.trans (bb.mono B0.size)
  clear bb
  go_wp2
  go_ret
  exact ⟨rfl, B0⟩
set_option maxRecDepth 20000 in
set_option maxHeartbeats 8000000 in
theorem integerSums_body {ba bb' : Bool} {Aa Ab : Option Addr} {na ca nb cb : Nat} {a b : Int} (w : World) (ha : Iv w (.agg #[.bool ba, .slice Aa na ca]) a na) (hb : Iv w (.agg #[.bool bb', .slice Ab nb cb]) b nb) (h1 : na ≤ 40) (h2 : nb ≤ 40) (ht : Tab w) :
    Calls Tryd.prog 3 #[.agg #[.bool ba, .slice Aa na ca], .agg #[.bool bb', .slice Ab nb cb]] w (BoolEnd true w) := by
  have HT := Lib.hid ht
  clear ht
  have B0 := below_a2 w (.cells #[.bool ba, .slice Aa na ca] 25) (.cells #[.bool bb', .slice Ab nb cb] 25)
  have ha := ha.below B0
  have hb := hb.below B0
  have ka := ((Bx.new w (w.heap.size) (by simp) (.bool ba) (.slice Aa na ca)).below (below_alloc (w.alloc (.cells #[.bool ba, .slice Aa na ca] 25)) (.cells #[.bool bb', .slice Ab nb cb] 25)))
  have kb := (Bx.new (w.alloc (.cells #[.bool ba, .slice Aa na ca] 25)) (w.heap.size + 1) (by simp) (.bool bb') (.slice Ab nb cb))
  go_enter Tryd.func3, Tryd.ntmps3
  have ka0 := ka.1
  have ka1 := ka.2
  have kb0 := kb.1
  have kb1 := kb.2
  go_wp2_with fail
  refine (short_yes ba bb' Aa Ab na ca nb cb _ h1 h2).mono ?_
  clear ka0 ka1 kb0 kb1
  rintro e w1 ⟨rfl, bb⟩
  have ha := ha.below bb
  have hb := hb.below bb
  have ka := ka.below bb
  have kb := kb.below bb
  have B0 := B0.trans (bb.mono B0.size)
  clear bb
  obtain ⟨o, ho⟩ : ∃ o, cmpZ a b = o := ⟨_, rfl⟩
  have HO := Lib.hid ho
  clear ho
  go_wp2_with fail
  have ha := ha.drew
  have hb := hb.drew
  have ka := ka.drew
  have kb := kb.drew
  have B0 := b_drew B0
  go_region_held3 (fun w' => w'.cell? ⟨w.heap.size, 0, none⟩ = some (.bool ba) ∧ w'.cell? ⟨w.heap.size, 1, none⟩ = some (.slice Aa na ca) ∧ w'.cell? ⟨w.heap.size + 1, 0, none⟩ = some (.bool bb') ∧ w'.cell? ⟨w.heap.size + 1, 1, none⟩ = some (.slice Ab nb cb)) (first | exact ⟨ka.1, ka.2, kb.1, kb.2⟩)
    (first
      | (go_at_call 15; (with_reducible refine (inorm_i ha ?_).mono ?_); omega; rintro e w2 ⟨v1, rfl, z1, bb⟩; have ha := ha.below bb; have hb := hb.below bb; have ka := ka.below bb; have kb := kb.below bb; have B0 := B0.trans (bb.mono B0.size); clear bb)
      | (go_at_call 16; (with_reducible refine (rnorm_i ha ?_).mono ?_); omega; rintro e w3 ⟨v2, rfl, z2, bb⟩; have ha := ha.below bb; have hb := hb.below bb; have ka := ka.below bb; have kb := kb.below bb; have z1 := z1.below bb; have B0 := B0.trans (bb.mono B0.size); clear bb)
      | (go_at_call 14; (with_reducible refine (isame_i z1 z2 (rfl)).mono ?_); rintro e w4 ⟨rfl, bb⟩; have ha := ha.below bb; have hb := hb.below bb; have ka := ka.below bb; have kb := kb.below bb; have z1 := z1.below bb; have z2 := z2.below bb; have B0 := B0.trans (bb.mono B0.size); clear bb)
      | (go_at_call 17; (with_reducible refine (icmp_i ha hb _ HO.out).mono ?_); rintro e w5 ⟨rfl, bb⟩; have ha := ha.below bb; have hb := hb.below bb; have ka := ka.below bb; have kb := kb.below bb; have B0 := B0.trans (bb.mono B0.size); clear bb)
      | (go_at_call 18; (with_reducible refine (ricmp_i ha hb ?_ ?_ _ HO.out).mono ?_); omega; omega; rintro e w6 ⟨rfl, bb⟩; have ha := ha.below bb; have hb := hb.below bb; have ka := ka.below bb; have kb := kb.below bb; have B0 := B0.trans (bb.mono B0.size); clear bb)
      | (go_at_call 19; (with_reducible refine (ineg_i ha ?_).mono ?_); omega; rintro e w7 ⟨v3, rfl, z3, bb⟩; have ha := ha.below bb; have hb := hb.below bb; have ka := ka.below bb; have kb := kb.below bb; have B0 := B0.trans (bb.mono B0.size); clear bb)
      | (go_at_call 20; (with_reducible refine (rneg_i ha ?_).mono ?_); omega; rintro e w8 ⟨v4, rfl, z4, bb⟩; have ha := ha.below bb; have hb := hb.below bb; have ka := ka.below bb; have kb := kb.below bb; have z3 := z3.below bb; have B0 := B0.trans (bb.mono B0.size); clear bb)
      | (go_at_call 14; (with_reducible refine (isame_i z3 z4 (rfl)).mono ?_); rintro e w9 ⟨rfl, bb⟩; have ha := ha.below bb; have hb := hb.below bb; have ka := ka.below bb; have kb := kb.below bb; have z3 := z3.below bb; have z4 := z4.below bb; have B0 := B0.trans (bb.mono B0.size); clear bb)
      | (go_at_call 21; (with_reducible refine (iadd_i ha hb ?_ ?_).mono ?_); omega; omega; rintro e w10 ⟨v5, rfl, z5, bb⟩; have ha := ha.below bb; have hb := hb.below bb; have ka := ka.below bb; have kb := kb.below bb; have B0 := B0.trans (bb.mono B0.size); clear bb)
      | (go_at_call 22; (with_reducible refine (riadd_i ha hb ?_ ?_).mono ?_); omega; omega; rintro e w11 ⟨v6, rfl, z6, bb⟩; have ha := ha.below bb; have hb := hb.below bb; have ka := ka.below bb; have kb := kb.below bb; have z5 := z5.below bb; have B0 := B0.trans (bb.mono B0.size); clear bb)
      | (go_at_call 14; (with_reducible refine (isame_i z5 z6 (rfl)).mono ?_); rintro e w12 ⟨rfl, bb⟩; have ha := ha.below bb; have hb := hb.below bb; have ka := ka.below bb; have kb := kb.below bb; have z5 := z5.below bb; have z6 := z6.below bb; have B0 := B0.trans (bb.mono B0.size); clear bb)
      | (go_at_call 23; (with_reducible refine (isub_i ha hb ?_ ?_).mono ?_); omega; omega; rintro e w13 ⟨v7, rfl, z7, bb⟩; have ha := ha.below bb; have hb := hb.below bb; have ka := ka.below bb; have kb := kb.below bb; have B0 := B0.trans (bb.mono B0.size); clear bb)
      | (go_at_call 24; (with_reducible refine (risub_i ha hb ?_ ?_).mono ?_); omega; omega; rintro e w14 ⟨v8, rfl, z8, bb⟩; have ha := ha.below bb; have hb := hb.below bb; have ka := ka.below bb; have kb := kb.below bb; have z7 := z7.below bb; have B0 := B0.trans (bb.mono B0.size); clear bb)
      | (go_at_call 14; (with_reducible refine (isame_i z7 z8 (rfl)).mono ?_); rintro e w15 ⟨rfl, bb⟩; have ha := ha.below bb; have hb := hb.below bb; have ka := ka.below bb; have kb := kb.below bb; have z7 := z7.below bb; have z8 := z8.below bb; have B0 := B0.trans (bb.mono B0.size); clear bb)
      | (go_at_call 13; (with_reducible refine (awake_walk _ (HT.out.below B0)).mono ?_); rintro e w16 ⟨rfl, bb⟩; have ha := ha.below bb; have hb := hb.below bb; have ka := ka.below bb; have kb := kb.below bb; have B0 := B0.trans (bb.mono B0.size); clear bb))
  go_wp2
  go_ret
  exact ⟨rfl, B0⟩
theorem integerSums_walk {va vb : Value} {a b : Int} {ka kb : Nat} (w : World) (ha : Iv w va a ka) (hb : Iv w vb b kb) (ht : Tab w) : Calls Tryd.prog 3 #[va, vb] w (BoolEnd true w) := by
  obtain ⟨ba, Aa, na, ca, rfl, _, ha⟩ := ha.named
  obtain ⟨bb', Ab, nb, cb, rfl, _, hb⟩ := hb.named
  by_cases hl : 40 < na ∨ 40 < nb
  · exact integerSums_long w hl ht
  · exact integerSums_body w ha hb (by omega) (by omega) ht
end Go.Proofs.YthcoemkbdllcfaaDoor
