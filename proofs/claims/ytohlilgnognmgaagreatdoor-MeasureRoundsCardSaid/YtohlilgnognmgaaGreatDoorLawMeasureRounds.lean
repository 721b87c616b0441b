/-
  The walk of garmentlaw04.MeasureRounds: it returns true, whatever the input.
-/
import Derived.Test.YtohlilgnognmgaaGreatDoorMeaU
import Derived.Test.YtohlilgnognmgaaGreatDoorRatC
namespace Go.Proofs.YtohlilgnognmgaaGreatDoor
open Go.RowKit Mea
attribute [local go_sem ↓] Go.wp_at_zero Go.wp_at_succ
set_option linter.unusedVariables false

theorem Qv.over {w : World} {v : Value} {x : Rat} {k j g : Nat} {b : Bool} {A A' : Option Addr} {n c n' c' : Nat} (h : Qv w v x k j) (hr : Bq w g (.bool b) (.slice A n c) (.slice A' n' c')) (x0 x1 x2 : Value) : Qv (((w.setCell ⟨g, 0, none⟩ x0).setCell ⟨g, 1, none⟩ x1).setCell ⟨g, 2, none⟩ x2) v x k j :=
  ((h.put hr.1 (NoInt.bool _) x0).put (bq_cells hr x0 x1).1 (NoInt.slice _ _ _) x1).put (bq_cells hr x0 x1).2 (NoInt.slice _ _ _) x2
theorem qv_zero (w : World) : Qv w (.agg #[.bool false, .slice none 0 0, .slice none 0 0]) 0 0 0 := ⟨false, none, 0, 0, none, 0, 0, 0, 0, rfl, zero_iv _ _, Nm.nil w, rfl⟩
theorem abs_cases (x : Rat) : absQ x = x ∨ absQ x = -x := by simp only [absQ]; split <;> simp
theorem half_of (n : Int) : ((n : Int) : Rat) / ((2 : Int) : Rat) = (n : Rat) / 2 := rfl
theorem in_limit (x : Rat) (h : -1048576 ≤ RatN.roundQ x ∧ RatN.roundQ x ≤ 1048576) : absQ x < ((2097153 : Int) : Rat) / ((2 : Int) : Rat) ∧ x - ((RatN.roundQ x : Int) : Rat) / ((1 : Int) : Rat) ≤ ((1 : Int) : Rat) / ((2 : Int) : Rat) ∧ -(x - ((RatN.roundQ x : Int) : Rat) / ((1 : Int) : Rat)) ≤ ((1 : Int) : Rat) / ((2 : Int) : Rat) := by
  obtain ⟨b1, b2, b3, b4⟩ := RatN.round_bounds x
  have e1 : ((2097153 : Int) : Rat) / ((2 : Int) : Rat) = 2097153 / 2 := rfl
  have e2 : ((1 : Int) : Rat) / ((2 : Int) : Rat) = 1 / 2 := rfl
  have h1 : (-1048576 : Rat) ≤ ((RatN.roundQ x : Int) : Rat) := by have := Rat.intCast_le_intCast.mpr h.1; simpa using this
  have h2 : ((RatN.roundQ x : Int) : Rat) ≤ (1048576 : Rat) := by have := Rat.intCast_le_intCast.mpr h.2; simpa using this
  have e3 : ((RatN.roundQ x : Int) : Rat) / ((1 : Int) : Rat) = ((RatN.roundQ x : Int) : Rat) := by
    have h0 : ((1 : Int) : Rat) = 1 := rfl
    rw [h0, Rat.div_def]; grind
  rw [e1, e2, e3]
  generalize ((RatN.roundQ x : Int) : Rat) = z at *
  refine ⟨?_, by grind, by grind⟩
  by_cases hx : x < 0
  · simp only [absQ, hx, if_true]
    have : z - x ≠ 1 / 2 := fun h => b3 h hx
    grind
  · simp only [absQ, hx, if_false]
    by_cases h0 : 0 < x
    · have : z - x ≠ -(1 / 2) := fun h => b4 h h0
      grind
    · grind
theorem out_limit (x : Rat) (h : ¬ (-1048576 ≤ RatN.roundQ x ∧ RatN.roundQ x ≤ 1048576)) : ¬ absQ x < ((2097153 : Int) : Rat) / ((2 : Int) : Rat) := by
  obtain ⟨b1, b2, b3, b4⟩ := RatN.round_bounds x
  have e1 : ((2097153 : Int) : Rat) / ((2 : Int) : Rat) = 2097153 / 2 := rfl
  rw [e1]
  by_cases h1 : RatN.roundQ x < -1048576
  · have h2 : ((RatN.roundQ x : Int) : Rat) ≤ (-1048577 : Rat) := by
      have := Rat.intCast_le_intCast.mpr (show RatN.roundQ x ≤ -1048577 by omega)
      simpa using this
    generalize ((RatN.roundQ x : Int) : Rat) = z at *
    simp only [absQ]
    split <;> grind
  · have h2 : (1048577 : Rat) ≤ ((RatN.roundQ x : Int) : Rat) := by
      have := Rat.intCast_le_intCast.mpr (show 1048577 ≤ RatN.roundQ x by omega)
      simpa using this
    generalize ((RatN.roundQ x : Int) : Rat) = z at *
    simp only [absQ]
    split <;> grind
theorem cmp_le {x y : Rat} (h : x ≤ y) : ∃ o : Int, RatN.cmpQ x y = o ∧ o ≤ 0 := ⟨_, rfl, by
  by_cases h1 : 0 < RatN.cmpQ x y
  · have := (RatN.cmpQ_gt x y).1 h1
    grind
  · omega⟩
theorem cmp_ge {x y : Rat} (h : ¬ x < y) : ∃ o : Int, RatN.cmpQ x y = o ∧ 0 ≤ o := ⟨_, rfl, by
  by_cases h1 : RatN.cmpQ x y < 0
  · exact absurd ((RatN.cmpQ_lt x y).1 h1) h
  · omega⟩
theorem cmp_lt {x y : Rat} (h : x < y) : ∃ o : Int, RatN.cmpQ x y = o ∧ o < 0 := ⟨_, rfl, (RatN.cmpQ_lt x y).2 h⟩
set_option maxRecDepth 20000 in
set_option maxHeartbeats 8000000 in
theorem measureRounds_long_a {ba : Bool} {Aa : Option Addr} {na ca : Nat} {Ba : Option Addr} {ma da : Nat} (w : World) (hl : 24 < na ∨ 24 < ma) (ht : Tab w) :
    Calls Tryz.prog 8 #[.agg #[.bool ba, .slice Aa na ca, .slice Ba ma da]] w (BoolEnd true w) := by
  have HT := Lib.hid ht
  clear ht
  have B0 := below_a1 w (.cells #[.bool ba, .slice Aa na ca, .slice Ba ma da] 27)
  have ka := (Bq.new w (w.heap.size) (by simp) (.bool ba) (.slice Aa na ca) (.slice Ba ma da))
  go_enter Tryz.func8, Tryz.ntmps8
  have ka_0 := ka.c0
  have ka_1 := ka.c1
  have ka_2 := ka.c2
  go_wp2_with fail
  refine (light_not ba Aa na ca Ba ma da _ _ (by omega)).mono ?_
  clear ka_0 ka_1 ka_2
  rintro e w1 ⟨rfl, bb⟩
  have ka := ka.below bb
  have B0 := B0.trans (bb.mono B0.size)
  clear bb
  have ka_0 := ka.c0
  have ka_1 := ka.c1
  have ka_2 := ka.c2
  go_wp2_with fail
  refine (alive_walk _ (HT.out.below B0)).mono ?_
  clear ka_0 ka_1 ka_2
  rintro e w2 ⟨rfl, bb⟩
  have ka := ka.below bb
  have B0 := B0.trans (bb.mono B0.size)
  clear bb
  go_wp2
  go_ret
  exact ⟨rfl, B0⟩
set_option maxRecDepth 20000 in
set_option maxHeartbeats 8000000 in
theorem measureRounds_p_ok {ba : Bool} {Aa : Option Addr} {na ca : Nat} {Ba : Option Addr} {ma da : Nat} {xa : Rat} (w : World) (ha : Qv w (.agg #[.bool ba, .slice Aa na ca, .slice Ba ma da]) xa na ma) (h1 : na ≤ 24 ∧ ma ≤ 24) (hz : (-1048576 ≤ RatN.roundQ xa ∧ RatN.roundQ xa ≤ 1048576)) (hx : ¬ xa < 0) (ht : Tab w) :
    Calls Tryz.prog 8 #[.agg #[.bool ba, .slice Aa na ca, .slice Ba ma da]] w (BoolEnd true w) := by
  have HT := Lib.hid ht
  clear ht
  have hx' : absQ xa = xa := by simp only [absQ, hx, if_false]
  obtain ⟨l1, l2, l3⟩ := in_limit xa hz
  have hm : -1048576 ≤ RatN.roundQ (-xa) ∧ RatN.roundQ (-xa) ≤ 1048576 := by rw [RatN.roundQ_neg]; omega
  obtain ⟨o2, ho2, hd2⟩ := cmp_lt l1
  obtain ⟨o3, ho3, hd3⟩ := cmp_le l2
  obtain ⟨o4, ho4, hd4⟩ := cmp_le l3
  rw [hx'] at ho2
  have hd3' : decide (o3 ≤ 0) = true := decide_eq_true hd3
  have hd4' : decide (o4 ≤ 0) = true := decide_eq_true hd4
  have hd2' : decide (o2 < 0) = true := decide_eq_true hd2
  have hnn : RatN.roundQ (-xa) = -(RatN.roundQ xa) := RatN.roundQ_neg xa
  obtain ⟨z, hzz⟩ : ∃ z, RatN.roundQ xa = z := ⟨_, rfl⟩
  rw [hzz] at hnn ho3 ho4 hz
  have hzb : -1048576 ≤ z ∧ z ≤ 1048576 := hz
  have ew : IntKind.i64.wrap (- -z) = z := by rw [IntKind.wrap_i64]; omega
  have ew' : wrap64 z = z := by unfold wrap64; omega
  obtain ⟨o1, ho1, hd1⟩ := cmp_ge hx
  have hd1' : decide (o1 < 0) = false := decide_eq_false (by omega)
  have hd1n : ¬ o1 < 0 := by omega
  clear hx' l1 l2 l3 hzb
  have HX := Lib.hid hx
  have HZ := Lib.hid hz
  have HM := Lib.hid hm
  have HO1 := Lib.hid ho1
  have HO2 := Lib.hid ho2
  have HO3 := Lib.hid ho3
  have HO4 := Lib.hid ho4
  have HNN := Lib.hid hnn
  have HZZ := Lib.hid hzz
  clear hx hz hm ho1 ho2 ho3 ho4 hnn hzz
  have B0 := below_a1 w (.cells #[.bool ba, .slice Aa na ca, .slice Ba ma da] 27)
  have ha := ha.below B0
  have ka := (Bq.new w (w.heap.size) (by simp) (.bool ba) (.slice Aa na ca) (.slice Ba ma da))
  go_enter Tryz.func8, Tryz.ntmps8
  have ka_0 := ka.c0
  have ka_1 := ka.c1
  have ka_2 := ka.c2
  go_wp2_with fail
  refine (light_yes ba Aa na ca Ba ma da _ _ (by omega) (by omega)).mono ?_
  clear ka_0 ka_1 ka_2
  rintro e w1 ⟨rfl, bb⟩
  have ha := ha.below bb
  have ka := ka.below bb
  have B0 := B0.trans (bb.mono B0.size)
  clear bb
  have ka_0 := ka.c0
  have ka_1 := ka.c1
  have ka_2 := ka.c2
  go_wp2_with fail
  refine (munits_in ha (by omega) (by omega) z HZZ.out (by have := HZ.out; omega) (by have := HZ.out; omega)).mono ?_
  clear ka_0 ka_1 ka_2
  rintro e w2 ⟨rfl, bb⟩
  have ha := ha.below bb
  have ka := ka.below bb
  have B0 := B0.trans (bb.mono B0.size)
  clear bb
  have ka_0 := ka.c0
  have ka_1 := ka.c1
  have ka_2 := ka.c2
  go_wp2_with fail
  refine (qneg_q ha (by omega) (by omega)).mono ?_
  clear ka_0 ka_1 ka_2
  rintro e w3 ⟨b1, A1, n1, c1, B1, m1, d1, rfl, z1, bb⟩
  have ha := ha.below bb
  have ka := ka.below bb
  have B0 := B0.trans (bb.mono B0.size)
  clear bb
  have ka_0 := ka.c0
  have ka_1 := ka.c1
  have ka_2 := ka.c2
  go_wp2_with fail
  refine (munits_in z1.qv (by omega) (by omega) (-z) HNN.out (by have := HZ.out; omega) (by have := HZ.out; omega)).mono ?_
  clear ka_0 ka_1 ka_2
  rintro e w4 ⟨rfl, bb⟩
  have ha := ha.below bb
  have ka := ka.below bb
  have z1 := z1.below bb
  have B0 := B0.trans (bb.mono B0.size)
  clear bb
  have lka := ka.lt
  have p0 := ka.c0
  have p1 := ka.c1
  have p2 := ka.c2
  have ha := ha.below (below_alloc w4 (.cells #[.bool ba, .slice Aa na ca, .slice Ba ma da] 27))
  have ka := ka.below (below_alloc w4 (.cells #[.bool ba, .slice Aa na ca, .slice Ba ma da] 27))
  have ks := Bq.new w4 (w4.heap.size) (by simp) (.bool ba) (.slice Aa na ca) (.slice Ba ma da)
  have B0 := B0.trans ((below_alloc w4 (.cells #[.bool ba, .slice Aa na ca, .slice Ba ma da] 27)).mono B0.size)
  have hs := ha
  have ka_0 := ka.c0
  have ka_1 := ka.c1
  have ka_2 := ka.c2
  have ks_0 := ks.c0
  have ks_1 := ks.c1
  have ks_2 := ks.c2
  go_wp2_with fail
  refine (qcmp_q ha (qv_zero _) (by omega) (by omega) (by omega) (by omega) _ HO1.out).mono ?_
  clear ka_0 ka_1 ka_2 ks_0 ks_1 ks_2
  rintro e w5 ⟨rfl, bb⟩
  have ha := ha.below bb
  have ka := ka.below bb
  have ks := ks.below bb
  have B0 := B0.trans (bb.mono B0.size)
  clear bb
  clear p0 p1 p2
  have ka_0 := ka.c0
  have ka_1 := ka.c1
  have ka_2 := ka.c2
  have ks_0 := ks.c0
  have ks_1 := ks.c1
  have ks_2 := ks.c2
  go_wp2_with fail
  refine (qof_p 2097153 2 (by decide) (by decide) (by decide) (by decide) _ (by decide) _ rfl).mono ?_
  clear ka_0 ka_1 ka_2 ks_0 ks_1 ks_2
  rintro e w6 ⟨b3, A3, n3, c3, B3, m3, d3, rfl, z3, bb⟩
  have ha := ha.below bb
  have ka := ka.below bb
  have ks := ks.below bb
  have B0 := B0.trans (bb.mono B0.size)
  clear bb
  have ha := ha.below (below_alloc w6 (.cells #[.bool b3, .slice A3 n3 c3, .slice B3 m3 d3] 27))
  have ka := ka.below (below_alloc w6 (.cells #[.bool b3, .slice A3 n3 c3, .slice B3 m3 d3] 27))
  have ks := ks.below (below_alloc w6 (.cells #[.bool b3, .slice A3 n3 c3, .slice B3 m3 d3] 27))
  have z3 := z3.below (below_alloc w6 (.cells #[.bool b3, .slice A3 n3 c3, .slice B3 m3 d3] 27))
  have k3 := Bq.new w6 (w6.heap.size) (by simp) (.bool b3) (.slice A3 n3 c3) (.slice B3 m3 d3)
  have B0 := B0.trans ((below_alloc w6 (.cells #[.bool b3, .slice A3 n3 c3, .slice B3 m3 d3] 27)).mono B0.size)
  have ka_0 := ka.c0
  have ka_1 := ka.c1
  have ka_2 := ka.c2
  have ks_0 := ks.c0
  have ks_1 := ks.c1
  have ks_2 := ks.c2
  have k3_0 := k3.c0
  have k3_1 := k3.c1
  have k3_2 := k3.c2
  go_wp2_with fail
  refine (qof_p z 1 (by have := HZ.out; omega) (by have := HZ.out; omega) (by decide) (by decide) _ (by decide) _ rfl).mono ?_
  clear ka_0 ka_1 ka_2 ks_0 ks_1 ks_2 k3_0 k3_1 k3_2
  rintro e w7 ⟨b4, A4, n4, c4, B4, m4, d4, rfl, z4, bb⟩
  have ha := ha.below bb
  have ka := ka.below bb
  have ks := ks.below bb
  have z3 := z3.below bb
  have k3 := k3.below bb
  have B0 := B0.trans (bb.mono B0.size)
  clear bb
  have ha := ha.below (below_alloc w7 (.cells #[.bool b4, .slice A4 n4 c4, .slice B4 m4 d4] 27))
  have ka := ka.below (below_alloc w7 (.cells #[.bool b4, .slice A4 n4 c4, .slice B4 m4 d4] 27))
  have ks := ks.below (below_alloc w7 (.cells #[.bool b4, .slice A4 n4 c4, .slice B4 m4 d4] 27))
  have z3 := z3.below (below_alloc w7 (.cells #[.bool b4, .slice A4 n4 c4, .slice B4 m4 d4] 27))
  have k3 := k3.below (below_alloc w7 (.cells #[.bool b4, .slice A4 n4 c4, .slice B4 m4 d4] 27))
  have z4 := z4.below (below_alloc w7 (.cells #[.bool b4, .slice A4 n4 c4, .slice B4 m4 d4] 27))
  have k4 := Bq.new w7 (w7.heap.size) (by simp) (.bool b4) (.slice A4 n4 c4) (.slice B4 m4 d4)
  have B0 := B0.trans ((below_alloc w7 (.cells #[.bool b4, .slice A4 n4 c4, .slice B4 m4 d4] 27)).mono B0.size)
  have ka_0 := ka.c0
  have ka_1 := ka.c1
  have ka_2 := ka.c2
  have ks_0 := ks.c0
  have ks_1 := ks.c1
  have ks_2 := ks.c2
  have k3_0 := k3.c0
  have k3_1 := k3.c1
  have k3_2 := k3.c2
  have k4_0 := k4.c0
  have k4_1 := k4.c1
  have k4_2 := k4.c2
  go_wp2_with fail
  refine (qof_p 1 2 (by decide) (by decide) (by decide) (by decide) _ (by decide) _ rfl).mono ?_
  clear ka_0 ka_1 ka_2 ks_0 ks_1 ks_2 k3_0 k3_1 k3_2 k4_0 k4_1 k4_2
  rintro e w8 ⟨b5, A5, n5, c5, B5, m5, d5, rfl, z5, bb⟩
  have ha := ha.below bb
  have ka := ka.below bb
  have ks := ks.below bb
  have z3 := z3.below bb
  have k3 := k3.below bb
  have z4 := z4.below bb
  have k4 := k4.below bb
  have B0 := B0.trans (bb.mono B0.size)
  clear bb
  have ha := ha.below (below_alloc w8 (.cells #[.bool b5, .slice A5 n5 c5, .slice B5 m5 d5] 27))
  have ka := ka.below (below_alloc w8 (.cells #[.bool b5, .slice A5 n5 c5, .slice B5 m5 d5] 27))
  have ks := ks.below (below_alloc w8 (.cells #[.bool b5, .slice A5 n5 c5, .slice B5 m5 d5] 27))
  have z3 := z3.below (below_alloc w8 (.cells #[.bool b5, .slice A5 n5 c5, .slice B5 m5 d5] 27))
  have k3 := k3.below (below_alloc w8 (.cells #[.bool b5, .slice A5 n5 c5, .slice B5 m5 d5] 27))
  have z4 := z4.below (below_alloc w8 (.cells #[.bool b5, .slice A5 n5 c5, .slice B5 m5 d5] 27))
  have k4 := k4.below (below_alloc w8 (.cells #[.bool b5, .slice A5 n5 c5, .slice B5 m5 d5] 27))
  have z5 := z5.below (below_alloc w8 (.cells #[.bool b5, .slice A5 n5 c5, .slice B5 m5 d5] 27))
  have k5 := Bq.new w8 (w8.heap.size) (by simp) (.bool b5) (.slice A5 n5 c5) (.slice B5 m5 d5)
  have B0 := B0.trans ((below_alloc w8 (.cells #[.bool b5, .slice A5 n5 c5, .slice B5 m5 d5] 27)).mono B0.size)
  have ka_0 := ka.c0
  have ka_1 := ka.c1
  have ka_2 := ka.c2
  have ks_0 := ks.c0
  have ks_1 := ks.c1
  have ks_2 := ks.c2
  have k3_0 := k3.c0
  have k3_1 := k3.c1
  have k3_2 := k3.c2
  have k4_0 := k4.c0
  have k4_1 := k4.c1
  have k4_2 := k4.c2
  have k5_0 := k5.c0
  have k5_1 := k5.c1
  have k5_2 := k5.c2
  go_wp2_with fail
  refine (qsub_q ha z4.qv (by omega) (by omega) (by omega) (by omega)).mono ?_
  clear ka_0 ka_1 ka_2 ks_0 ks_1 ks_2 k3_0 k3_1 k3_2 k4_0 k4_1 k4_2 k5_0 k5_1 k5_2
  rintro e w9 ⟨b6, A6, n6, c6, B6, m6, d6, rfl, z6, bb⟩
  have ha := ha.below bb
  have ka := ka.below bb
  have ks := ks.below bb
  have z3 := z3.below bb
  have k3 := k3.below bb
  have z4 := z4.below bb
  have k4 := k4.below bb
  have z5 := z5.below bb
  have k5 := k5.below bb
  have B0 := B0.trans (bb.mono B0.size)
  clear bb
  have ha := ha.below (below_alloc w9 (.cells #[.bool b6, .slice A6 n6 c6, .slice B6 m6 d6] 27))
  have ka := ka.below (below_alloc w9 (.cells #[.bool b6, .slice A6 n6 c6, .slice B6 m6 d6] 27))
  have ks := ks.below (below_alloc w9 (.cells #[.bool b6, .slice A6 n6 c6, .slice B6 m6 d6] 27))
  have z3 := z3.below (below_alloc w9 (.cells #[.bool b6, .slice A6 n6 c6, .slice B6 m6 d6] 27))
  have k3 := k3.below (below_alloc w9 (.cells #[.bool b6, .slice A6 n6 c6, .slice B6 m6 d6] 27))
  have z4 := z4.below (below_alloc w9 (.cells #[.bool b6, .slice A6 n6 c6, .slice B6 m6 d6] 27))
  have k4 := k4.below (below_alloc w9 (.cells #[.bool b6, .slice A6 n6 c6, .slice B6 m6 d6] 27))
  have z5 := z5.below (below_alloc w9 (.cells #[.bool b6, .slice A6 n6 c6, .slice B6 m6 d6] 27))
  have k5 := k5.below (below_alloc w9 (.cells #[.bool b6, .slice A6 n6 c6, .slice B6 m6 d6] 27))
  have z6 := z6.below (below_alloc w9 (.cells #[.bool b6, .slice A6 n6 c6, .slice B6 m6 d6] 27))
  have k6 := Bq.new w9 (w9.heap.size) (by simp) (.bool b6) (.slice A6 n6 c6) (.slice B6 m6 d6)
  have B0 := B0.trans ((below_alloc w9 (.cells #[.bool b6, .slice A6 n6 c6, .slice B6 m6 d6] 27)).mono B0.size)
  go_wp2_with fail
  have ha := ha.drew
  have ks := ks.drew
  have z3 := z3.drew
  have k3 := k3.drew
  have z5 := z5.drew
  have k5 := k5.drew
  have z6 := z6.drew
  have k6 := k6.drew
  have B0 := b_drew B0
  go_region_held3 (fun w' => w'.cell? ⟨w4.heap.size, 0, none⟩ = some (.bool ba) ∧ w'.cell? ⟨w4.heap.size, 1, none⟩ = some (.slice Aa na ca) ∧ w'.cell? ⟨w4.heap.size, 2, none⟩ = some (.slice Ba ma da) ∧ w'.cell? ⟨w6.heap.size, 0, none⟩ = some (.bool b3) ∧ w'.cell? ⟨w6.heap.size, 1, none⟩ = some (.slice A3 n3 c3) ∧ w'.cell? ⟨w6.heap.size, 2, none⟩ = some (.slice B3 m3 d3) ∧ w'.cell? ⟨w8.heap.size, 0, none⟩ = some (.bool b5) ∧ w'.cell? ⟨w8.heap.size, 1, none⟩ = some (.slice A5 n5 c5) ∧ w'.cell? ⟨w8.heap.size, 2, none⟩ = some (.slice B5 m5 d5) ∧ w'.cell? ⟨w9.heap.size, 0, none⟩ = some (.bool b6) ∧ w'.cell? ⟨w9.heap.size, 1, none⟩ = some (.slice A6 n6 c6) ∧ w'.cell? ⟨w9.heap.size, 2, none⟩ = some (.slice B6 m6 d6)) (first | with_reducible exact ⟨ks.c0, ks.c1, ks.c2, k3.c0, k3.c1, k3.c2, k5.c0, k5.c1, k5.c2, k6.c0, k6.c1, k6.c2⟩)
    (first
      | (go_at_call 15; (with_reducible refine (qcmp_q ha z3.qv ?_ ?_ ?_ ?_ _ HO2.out).mono ?_); omega; omega; omega; omega; rintro e w41 ⟨rfl, bb⟩; have ha := ha.below bb; have ks := ks.below bb; have z3 := z3.below bb; have k3 := k3.below bb; have z5 := z5.below bb; have k5 := k5.below bb; have z6 := z6.below bb; have k6 := k6.below bb; have B0 := B0.trans (bb.mono B0.size); clear bb)
      | (go_at_call 15; (with_reducible refine (qcmp_q z6.qv z5.qv ?_ ?_ ?_ ?_ _ HO3.out).mono ?_); omega; omega; omega; omega; rintro e w42 ⟨rfl, bb⟩; have ha := ha.below bb; have ks := ks.below bb; have z3 := z3.below bb; have k3 := k3.below bb; have z5 := z5.below bb; have k5 := k5.below bb; have z6 := z6.below bb; have k6 := k6.below bb; have B0 := B0.trans (bb.mono B0.size); clear bb)
      | (go_at_call 16; (with_reducible refine (qneg_q z6.qv ?_ ?_).mono ?_); omega; omega; rintro e w43 ⟨b7, A7, n7, c7, B7, m7, d7, rfl, z7, bb⟩; have ha := ha.below bb; have ks := ks.below bb; have z3 := z3.below bb; have k3 := k3.below bb; have z5 := z5.below bb; have k5 := k5.below bb; have z6 := z6.below bb; have k6 := k6.below bb; have B0 := B0.trans (bb.mono B0.size); clear bb)
      | (go_at_call 15; (with_reducible refine (qcmp_q z7.qv z5.qv ?_ ?_ ?_ ?_ _ HO4.out).mono ?_); omega; omega; omega; omega; rintro e w44 ⟨rfl, bb⟩; have ha := ha.below bb; have ks := ks.below bb; have z3 := z3.below bb; have k3 := k3.below bb; have z5 := z5.below bb; have k5 := k5.below bb; have z6 := z6.below bb; have k6 := k6.below bb; have z7 := z7.below bb; have B0 := B0.trans (bb.mono B0.size); clear bb)
      | (go_at_call 10; (with_reducible refine (alive_walk _ (HT.out.below B0)).mono ?_); rintro e w45 ⟨rfl, bb⟩; have ha := ha.below bb; have ks := ks.below bb; have z3 := z3.below bb; have k3 := k3.below bb; have z5 := z5.below bb; have k5 := k5.below bb; have z6 := z6.below bb; have k6 := k6.below bb; have B0 := B0.trans (bb.mono B0.size); clear bb))
  go_wp2
  go_ret
  exact ⟨rfl, B0⟩
set_option maxRecDepth 20000 in
set_option maxHeartbeats 8000000 in
theorem measureRounds_p_err {ba : Bool} {Aa : Option Addr} {na ca : Nat} {Ba : Option Addr} {ma da : Nat} {xa : Rat} (w : World) (ha : Qv w (.agg #[.bool ba, .slice Aa na ca, .slice Ba ma da]) xa na ma) (h1 : na ≤ 24 ∧ ma ≤ 24) (hz : ¬ (-1048576 ≤ RatN.roundQ xa ∧ RatN.roundQ xa ≤ 1048576)) (hx : ¬ xa < 0) (ht : Tab w) :
    Calls Tryz.prog 8 #[.agg #[.bool ba, .slice Aa na ca, .slice Ba ma da]] w (BoolEnd true w) := by
  have HT := Lib.hid ht
  clear ht
  have hx' : absQ xa = xa := by simp only [absQ, hx, if_false]
  have l1 := out_limit xa hz
  have hm : ¬ (-1048576 ≤ RatN.roundQ (-xa) ∧ RatN.roundQ (-xa) ≤ 1048576) := by rw [RatN.roundQ_neg]; omega
  obtain ⟨o2, ho2, hd2⟩ := cmp_ge l1
  rw [hx'] at ho2
  have hd2' : decide (0 ≤ o2) = true := decide_eq_true hd2
  obtain ⟨o1, ho1, hd1⟩ := cmp_ge hx
  have hd1' : decide (o1 < 0) = false := decide_eq_false (by omega)
  have hd1n : ¬ o1 < 0 := by omega
  clear hx' l1
  have HX := Lib.hid hx
  have HZ := Lib.hid hz
  have HM := Lib.hid hm
  have HO1 := Lib.hid ho1
  have HO2 := Lib.hid ho2
  clear hx hz hm ho1 ho2
  have B0 := below_a1 w (.cells #[.bool ba, .slice Aa na ca, .slice Ba ma da] 27)
  have ha := ha.below B0
  have ka := (Bq.new w (w.heap.size) (by simp) (.bool ba) (.slice Aa na ca) (.slice Ba ma da))
  go_enter Tryz.func8, Tryz.ntmps8
  have ka_0 := ka.c0
  have ka_1 := ka.c1
  have ka_2 := ka.c2
  go_wp2_with fail
  refine (light_yes ba Aa na ca Ba ma da _ _ (by omega) (by omega)).mono ?_
  clear ka_0 ka_1 ka_2
  rintro e w1 ⟨rfl, bb⟩
  have ha := ha.below bb
  have ka := ka.below bb
  have B0 := B0.trans (bb.mono B0.size)
  clear bb
  have ka_0 := ka.c0
  have ka_1 := ka.c1
  have ka_2 := ka.c2
  go_wp2_with fail
  refine (munits_err ha (by omega) (by omega) HZ.out).mono ?_
  clear ka_0 ka_1 ka_2
  rintro e w2 ⟨rfl, bb⟩
  have ha := ha.below bb
  have ka := ka.below bb
  have B0 := B0.trans (bb.mono B0.size)
  clear bb
  have ka_0 := ka.c0
  have ka_1 := ka.c1
  have ka_2 := ka.c2
  go_wp2_with fail
  refine (qneg_q ha (by omega) (by omega)).mono ?_
  clear ka_0 ka_1 ka_2
  rintro e w3 ⟨b1, A1, n1, c1, B1, m1, d1, rfl, z1, bb⟩
  have ha := ha.below bb
  have ka := ka.below bb
  have B0 := B0.trans (bb.mono B0.size)
  clear bb
  have ka_0 := ka.c0
  have ka_1 := ka.c1
  have ka_2 := ka.c2
  go_wp2_with fail
  refine (munits_err z1.qv (by omega) (by omega) HM.out).mono ?_
  clear ka_0 ka_1 ka_2
  rintro e w4 ⟨rfl, bb⟩
  have ha := ha.below bb
  have ka := ka.below bb
  have z1 := z1.below bb
  have B0 := B0.trans (bb.mono B0.size)
  clear bb
  have lka := ka.lt
  have p0 := ka.c0
  have p1 := ka.c1
  have p2 := ka.c2
  have ha := ha.below (below_alloc w4 (.cells #[.bool ba, .slice Aa na ca, .slice Ba ma da] 27))
  have ka := ka.below (below_alloc w4 (.cells #[.bool ba, .slice Aa na ca, .slice Ba ma da] 27))
  have ks := Bq.new w4 (w4.heap.size) (by simp) (.bool ba) (.slice Aa na ca) (.slice Ba ma da)
  have B0 := B0.trans ((below_alloc w4 (.cells #[.bool ba, .slice Aa na ca, .slice Ba ma da] 27)).mono B0.size)
  have hs := ha
  have ka_0 := ka.c0
  have ka_1 := ka.c1
  have ka_2 := ka.c2
  have ks_0 := ks.c0
  have ks_1 := ks.c1
  have ks_2 := ks.c2
  go_wp2_with fail
  refine (qcmp_q ha (qv_zero _) (by omega) (by omega) (by omega) (by omega) _ HO1.out).mono ?_
  clear ka_0 ka_1 ka_2 ks_0 ks_1 ks_2
  rintro e w5 ⟨rfl, bb⟩
  have ha := ha.below bb
  have ka := ka.below bb
  have ks := ks.below bb
  have B0 := B0.trans (bb.mono B0.size)
  clear bb
  clear p0 p1 p2
  have ka_0 := ka.c0
  have ka_1 := ka.c1
  have ka_2 := ka.c2
  have ks_0 := ks.c0
  have ks_1 := ks.c1
  have ks_2 := ks.c2
  go_wp2_with fail
  refine (qof_p 2097153 2 (by decide) (by decide) (by decide) (by decide) _ (by decide) _ rfl).mono ?_
  clear ka_0 ka_1 ka_2 ks_0 ks_1 ks_2
  rintro e w6 ⟨b3, A3, n3, c3, B3, m3, d3, rfl, z3, bb⟩
  have ha := ha.below bb
  have ka := ka.below bb
  have ks := ks.below bb
  have B0 := B0.trans (bb.mono B0.size)
  clear bb
  have ha := ha.below (below_alloc w6 (.cells #[.bool b3, .slice A3 n3 c3, .slice B3 m3 d3] 27))
  have ka := ka.below (below_alloc w6 (.cells #[.bool b3, .slice A3 n3 c3, .slice B3 m3 d3] 27))
  have ks := ks.below (below_alloc w6 (.cells #[.bool b3, .slice A3 n3 c3, .slice B3 m3 d3] 27))
  have z3 := z3.below (below_alloc w6 (.cells #[.bool b3, .slice A3 n3 c3, .slice B3 m3 d3] 27))
  have k3 := Bq.new w6 (w6.heap.size) (by simp) (.bool b3) (.slice A3 n3 c3) (.slice B3 m3 d3)
  have B0 := B0.trans ((below_alloc w6 (.cells #[.bool b3, .slice A3 n3 c3, .slice B3 m3 d3] 27)).mono B0.size)
  have ka_0 := ka.c0
  have ka_1 := ka.c1
  have ka_2 := ka.c2
  have ks_0 := ks.c0
  have ks_1 := ks.c1
  have ks_2 := ks.c2
  have k3_0 := k3.c0
  have k3_1 := k3.c1
  have k3_2 := k3.c2
  go_wp2_with fail
  refine (qcmp_q ha z3.qv (by omega) (by omega) (by omega) (by omega) _ HO2.out).mono ?_
  clear ka_0 ka_1 ka_2 ks_0 ks_1 ks_2 k3_0 k3_1 k3_2
  rintro e w7 ⟨rfl, bb⟩
  have ha := ha.below bb
  have ka := ka.below bb
  have ks := ks.below bb
  have z3 := z3.below bb
  have k3 := k3.below bb
  have B0 := B0.trans (bb.mono B0.size)
  clear bb
  have ka_0 := ka.c0
  have ka_1 := ka.c1
  have ka_2 := ka.c2
  have ks_0 := ks.c0
  have ks_1 := ks.c1
  have ks_2 := ks.c2
  have k3_0 := k3.c0
  have k3_1 := k3.c1
  have k3_2 := k3.c2
  go_wp2_with fail
  refine (alive_walk _ (HT.out.below B0)).mono ?_
  clear ka_0 ka_1 ka_2 ks_0 ks_1 ks_2 k3_0 k3_1 k3_2
  rintro e w8 ⟨rfl, bb⟩
  have ha := ha.below bb
  have ka := ka.below bb
  have ks := ks.below bb
  have z3 := z3.below bb
  have k3 := k3.below bb
  have B0 := B0.trans (bb.mono B0.size)
  clear bb
  go_wp2
  go_ret
  exact ⟨rfl, B0⟩
set_option maxRecDepth 20000 in
set_option maxHeartbeats 8000000 in
theorem measureRounds_n_ok {ba : Bool} {Aa : Option Addr} {na ca : Nat} {Ba : Option Addr} {ma da : Nat} {xa : Rat} (w : World) (ha : Qv w (.agg #[.bool ba, .slice Aa na ca, .slice Ba ma da]) xa na ma) (h1 : na ≤ 24 ∧ ma ≤ 24) (hz : (-1048576 ≤ RatN.roundQ xa ∧ RatN.roundQ xa ≤ 1048576)) (hx : xa < 0) (ht : Tab w) :
    Calls Tryz.prog 8 #[.agg #[.bool ba, .slice Aa na ca, .slice Ba ma da]] w (BoolEnd true w) := by
  have HT := Lib.hid ht
  clear ht
  have hx' : absQ xa = -xa := by simp only [absQ, hx, if_true]
  obtain ⟨l1, l2, l3⟩ := in_limit xa hz
  have hm : -1048576 ≤ RatN.roundQ (-xa) ∧ RatN.roundQ (-xa) ≤ 1048576 := by rw [RatN.roundQ_neg]; omega
  obtain ⟨o2, ho2, hd2⟩ := cmp_lt l1
  obtain ⟨o3, ho3, hd3⟩ := cmp_le l2
  obtain ⟨o4, ho4, hd4⟩ := cmp_le l3
  rw [hx'] at ho2
  have hd3' : decide (o3 ≤ 0) = true := decide_eq_true hd3
  have hd4' : decide (o4 ≤ 0) = true := decide_eq_true hd4
  have hd2' : decide (o2 < 0) = true := decide_eq_true hd2
  have hnn : RatN.roundQ (-xa) = -(RatN.roundQ xa) := RatN.roundQ_neg xa
  obtain ⟨z, hzz⟩ : ∃ z, RatN.roundQ xa = z := ⟨_, rfl⟩
  rw [hzz] at hnn ho3 ho4 hz
  have hzb : -1048576 ≤ z ∧ z ≤ 1048576 := hz
  have ew : IntKind.i64.wrap (- -z) = z := by rw [IntKind.wrap_i64]; omega
  have ew' : wrap64 z = z := by unfold wrap64; omega
  obtain ⟨o1, ho1, hd1⟩ := cmp_lt hx
  have hd1' : decide (o1 < 0) = true := decide_eq_true hd1
  clear hx' l1 l2 l3 hzb
  have HX := Lib.hid hx
  have HZ := Lib.hid hz
  have HM := Lib.hid hm
  have HO1 := Lib.hid ho1
  have HO2 := Lib.hid ho2
  have HO3 := Lib.hid ho3
  have HO4 := Lib.hid ho4
  have HNN := Lib.hid hnn
  have HZZ := Lib.hid hzz
  clear hx hz hm ho1 ho2 ho3 ho4 hnn hzz
  have B0 := below_a1 w (.cells #[.bool ba, .slice Aa na ca, .slice Ba ma da] 27)
  have ha := ha.below B0
  have ka := (Bq.new w (w.heap.size) (by simp) (.bool ba) (.slice Aa na ca) (.slice Ba ma da))
  go_enter Tryz.func8, Tryz.ntmps8
  have ka_0 := ka.c0
  have ka_1 := ka.c1
  have ka_2 := ka.c2
  go_wp2_with fail
  refine (light_yes ba Aa na ca Ba ma da _ _ (by omega) (by omega)).mono ?_
  clear ka_0 ka_1 ka_2
  rintro e w1 ⟨rfl, bb⟩
  have ha := ha.below bb
  have ka := ka.below bb
  have B0 := B0.trans (bb.mono B0.size)
  clear bb
  have ka_0 := ka.c0
  have ka_1 := ka.c1
  have ka_2 := ka.c2
  go_wp2_with fail
  refine (munits_in ha (by omega) (by omega) z HZZ.out (by have := HZ.out; omega) (by have := HZ.out; omega)).mono ?_
  clear ka_0 ka_1 ka_2
  rintro e w2 ⟨rfl, bb⟩
  have ha := ha.below bb
  have ka := ka.below bb
  have B0 := B0.trans (bb.mono B0.size)
  clear bb
  have ka_0 := ka.c0
  have ka_1 := ka.c1
  have ka_2 := ka.c2
  go_wp2_with fail
  refine (qneg_q ha (by omega) (by omega)).mono ?_
  clear ka_0 ka_1 ka_2
  rintro e w3 ⟨b1, A1, n1, c1, B1, m1, d1, rfl, z1, bb⟩
  have ha := ha.below bb
  have ka := ka.below bb
  have B0 := B0.trans (bb.mono B0.size)
  clear bb
  have ka_0 := ka.c0
  have ka_1 := ka.c1
  have ka_2 := ka.c2
  go_wp2_with fail
  refine (munits_in z1.qv (by omega) (by omega) (-z) HNN.out (by have := HZ.out; omega) (by have := HZ.out; omega)).mono ?_
  clear ka_0 ka_1 ka_2
  rintro e w4 ⟨rfl, bb⟩
  have ha := ha.below bb
  have ka := ka.below bb
  have z1 := z1.below bb
  have B0 := B0.trans (bb.mono B0.size)
  clear bb
  have lka := ka.lt
  have p0 := ka.c0
  have p1 := ka.c1
  have p2 := ka.c2
  have ha := ha.below (below_alloc w4 (.cells #[.bool ba, .slice Aa na ca, .slice Ba ma da] 27))
  have ka := ka.below (below_alloc w4 (.cells #[.bool ba, .slice Aa na ca, .slice Ba ma da] 27))
  have ks := Bq.new w4 (w4.heap.size) (by simp) (.bool ba) (.slice Aa na ca) (.slice Ba ma da)
  have B0 := B0.trans ((below_alloc w4 (.cells #[.bool ba, .slice Aa na ca, .slice Ba ma da] 27)).mono B0.size)
  have hs := ha
  have fs := Fq.new w4 (w4.heap.size) (by simp) (.bool ba) (.slice Aa na ca) (.slice Ba ma da)
  have ka_0 := ka.c0
  have ka_1 := ka.c1
  have ka_2 := ka.c2
  have ks_0 := ks.c0
  have ks_1 := ks.c1
  have ks_2 := ks.c2
  go_wp2_with fail
  refine (qcmp_q ha (qv_zero _) (by omega) (by omega) (by omega) (by omega) _ HO1.out).mono ?_
  clear ka_0 ka_1 ka_2 ks_0 ks_1 ks_2
  rintro e w5 ⟨rfl, bb⟩
  have ha := ha.below bb
  have ka := ka.below bb
  have ks := ks.below bb
  have fs := fs.below bb
  have B0 := B0.trans (bb.mono B0.size)
  clear bb
  clear p0 p1 p2
  have ka_0 := ka.c0
  have ka_1 := ka.c1
  have ka_2 := ka.c2
  have ks_0 := ks.c0
  have ks_1 := ks.c1
  have ks_2 := ks.c2
  go_wp2_with fail
  refine (qneg_q ha (by omega) (by omega)).mono ?_
  clear ka_0 ka_1 ka_2 ks_0 ks_1 ks_2
  rintro e w6 ⟨b2, A2, n2, c2, B2, m2, d2, rfl, z2, bb⟩
  have ha := ha.below bb
  have ka := ka.below bb
  have ks := ks.below bb
  have fs := fs.below bb
  have B0 := B0.trans (bb.mono B0.size)
  clear bb
  have ka_0 := ka.c0
  have ka_1 := ka.c1
  have ka_2 := ka.c2
  have ks_0 := ks.c0
  have ks_1 := ks.c1
  have ks_2 := ks.c2
  have f1 := fs.2.1
  have f2 := fs.2.2.1
  have f3 := fs.2.2.2
  go_wp2_with fail
  clear f1 f2 f3
  clear ka_0 ka_1 ka_2 ks_0 ks_1 ks_2
  have z2 := z2.over ks (.bool b2) (.slice A2 n2 c2) (.slice B2 m2 d2)
  have ks' := ks.over (.bool b2) (.slice A2 n2 c2) (.slice B2 m2 d2)
  have ha := ha.over ks (.bool b2) (.slice A2 n2 c2) (.slice B2 m2 d2)
  have ka := ka.ret3 (r := w4.heap.size) (by omega) (.bool b2) (.slice A2 n2 c2) (.slice B2 m2 d2)
  have B0 := below_ret3 (g := w4.heap.size) B0 (by omega) (.bool b2) (.slice A2 n2 c2) (.slice B2 m2 d2)
  have ks := ks'
  clear fs ks'
  refine (qof_p 2097153 2 (by decide) (by decide) (by decide) (by decide) _ (by decide) _ rfl).mono ?_
  rintro e w7 ⟨b3, A3, n3, c3, B3, m3, d3, rfl, z3, bb⟩
  have ha := ha.below bb
  have ka := ka.below bb
  have ks := ks.below bb
  have z2 := z2.below bb
  have B0 := B0.trans (bb.mono B0.size)
  clear bb
  have ha := ha.below (below_alloc w7 (.cells #[.bool b3, .slice A3 n3 c3, .slice B3 m3 d3] 27))
  have ka := ka.below (below_alloc w7 (.cells #[.bool b3, .slice A3 n3 c3, .slice B3 m3 d3] 27))
  have ks := ks.below (below_alloc w7 (.cells #[.bool b3, .slice A3 n3 c3, .slice B3 m3 d3] 27))
  have z2 := z2.below (below_alloc w7 (.cells #[.bool b3, .slice A3 n3 c3, .slice B3 m3 d3] 27))
  have z3 := z3.below (below_alloc w7 (.cells #[.bool b3, .slice A3 n3 c3, .slice B3 m3 d3] 27))
  have k3 := Bq.new w7 (w7.heap.size) (by simp) (.bool b3) (.slice A3 n3 c3) (.slice B3 m3 d3)
  have B0 := B0.trans ((below_alloc w7 (.cells #[.bool b3, .slice A3 n3 c3, .slice B3 m3 d3] 27)).mono B0.size)
  have ka_0 := ka.c0
  have ka_1 := ka.c1
  have ka_2 := ka.c2
  have ks_0 := ks.c0
  have ks_1 := ks.c1
  have ks_2 := ks.c2
  have k3_0 := k3.c0
  have k3_1 := k3.c1
  have k3_2 := k3.c2
  go_wp2_with fail
  refine (qof_p z 1 (by have := HZ.out; omega) (by have := HZ.out; omega) (by decide) (by decide) _ (by decide) _ rfl).mono ?_
  clear ka_0 ka_1 ka_2 ks_0 ks_1 ks_2 k3_0 k3_1 k3_2
  rintro e w8 ⟨b4, A4, n4, c4, B4, m4, d4, rfl, z4, bb⟩
  have ha := ha.below bb
  have ka := ka.below bb
  have ks := ks.below bb
  have z2 := z2.below bb
  have z3 := z3.below bb
  have k3 := k3.below bb
  have B0 := B0.trans (bb.mono B0.size)
  clear bb
  have ha := ha.below (below_alloc w8 (.cells #[.bool b4, .slice A4 n4 c4, .slice B4 m4 d4] 27))
  have ka := ka.below (below_alloc w8 (.cells #[.bool b4, .slice A4 n4 c4, .slice B4 m4 d4] 27))
  have ks := ks.below (below_alloc w8 (.cells #[.bool b4, .slice A4 n4 c4, .slice B4 m4 d4] 27))
  have z2 := z2.below (below_alloc w8 (.cells #[.bool b4, .slice A4 n4 c4, .slice B4 m4 d4] 27))
  have z3 := z3.below (below_alloc w8 (.cells #[.bool b4, .slice A4 n4 c4, .slice B4 m4 d4] 27))
  have k3 := k3.below (below_alloc w8 (.cells #[.bool b4, .slice A4 n4 c4, .slice B4 m4 d4] 27))
  have z4 := z4.below (below_alloc w8 (.cells #[.bool b4, .slice A4 n4 c4, .slice B4 m4 d4] 27))
  have k4 := Bq.new w8 (w8.heap.size) (by simp) (.bool b4) (.slice A4 n4 c4) (.slice B4 m4 d4)
  have B0 := B0.trans ((below_alloc w8 (.cells #[.bool b4, .slice A4 n4 c4, .slice B4 m4 d4] 27)).mono B0.size)
  have ka_0 := ka.c0
  have ka_1 := ka.c1
  have ka_2 := ka.c2
  have ks_0 := ks.c0
  have ks_1 := ks.c1
  have ks_2 := ks.c2
  have k3_0 := k3.c0
  have k3_1 := k3.c1
  have k3_2 := k3.c2
  have k4_0 := k4.c0
  have k4_1 := k4.c1
  have k4_2 := k4.c2
  go_wp2_with fail
  refine (qof_p 1 2 (by decide) (by decide) (by decide) (by decide) _ (by decide) _ rfl).mono ?_
  clear ka_0 ka_1 ka_2 ks_0 ks_1 ks_2 k3_0 k3_1 k3_2 k4_0 k4_1 k4_2
  rintro e w9 ⟨b5, A5, n5, c5, B5, m5, d5, rfl, z5, bb⟩
  have ha := ha.below bb
  have ka := ka.below bb
  have ks := ks.below bb
  have z2 := z2.below bb
  have z3 := z3.below bb
  have k3 := k3.below bb
  have z4 := z4.below bb
  have k4 := k4.below bb
  have B0 := B0.trans (bb.mono B0.size)
  clear bb
  have ha := ha.below (below_alloc w9 (.cells #[.bool b5, .slice A5 n5 c5, .slice B5 m5 d5] 27))
  have ka := ka.below (below_alloc w9 (.cells #[.bool b5, .slice A5 n5 c5, .slice B5 m5 d5] 27))
  have ks := ks.below (below_alloc w9 (.cells #[.bool b5, .slice A5 n5 c5, .slice B5 m5 d5] 27))
  have z2 := z2.below (below_alloc w9 (.cells #[.bool b5, .slice A5 n5 c5, .slice B5 m5 d5] 27))
  have z3 := z3.below (below_alloc w9 (.cells #[.bool b5, .slice A5 n5 c5, .slice B5 m5 d5] 27))
  have k3 := k3.below (below_alloc w9 (.cells #[.bool b5, .slice A5 n5 c5, .slice B5 m5 d5] 27))
  have z4 := z4.below (below_alloc w9 (.cells #[.bool b5, .slice A5 n5 c5, .slice B5 m5 d5] 27))
  have k4 := k4.below (below_alloc w9 (.cells #[.bool b5, .slice A5 n5 c5, .slice B5 m5 d5] 27))
  have z5 := z5.below (below_alloc w9 (.cells #[.bool b5, .slice A5 n5 c5, .slice B5 m5 d5] 27))
  have k5 := Bq.new w9 (w9.heap.size) (by simp) (.bool b5) (.slice A5 n5 c5) (.slice B5 m5 d5)
  have B0 := B0.trans ((below_alloc w9 (.cells #[.bool b5, .slice A5 n5 c5, .slice B5 m5 d5] 27)).mono B0.size)
  have ka_0 := ka.c0
  have ka_1 := ka.c1
  have ka_2 := ka.c2
  have ks_0 := ks.c0
  have ks_1 := ks.c1
  have ks_2 := ks.c2
  have k3_0 := k3.c0
  have k3_1 := k3.c1
  have k3_2 := k3.c2
  have k4_0 := k4.c0
  have k4_1 := k4.c1
  have k4_2 := k4.c2
  have k5_0 := k5.c0
  have k5_1 := k5.c1
  have k5_2 := k5.c2
  go_wp2_with fail
  refine (qsub_q ha z4.qv (by omega) (by omega) (by omega) (by omega)).mono ?_
  clear ka_0 ka_1 ka_2 ks_0 ks_1 ks_2 k3_0 k3_1 k3_2 k4_0 k4_1 k4_2 k5_0 k5_1 k5_2
  rintro e w10 ⟨b6, A6, n6, c6, B6, m6, d6, rfl, z6, bb⟩
  have ha := ha.below bb
  have ka := ka.below bb
  have ks := ks.below bb
  have z2 := z2.below bb
  have z3 := z3.below bb
  have k3 := k3.below bb
  have z4 := z4.below bb
  have k4 := k4.below bb
  have z5 := z5.below bb
  have k5 := k5.below bb
  have B0 := B0.trans (bb.mono B0.size)
  clear bb
  have ha := ha.below (below_alloc w10 (.cells #[.bool b6, .slice A6 n6 c6, .slice B6 m6 d6] 27))
  have ka := ka.below (below_alloc w10 (.cells #[.bool b6, .slice A6 n6 c6, .slice B6 m6 d6] 27))
  have ks := ks.below (below_alloc w10 (.cells #[.bool b6, .slice A6 n6 c6, .slice B6 m6 d6] 27))
  have z2 := z2.below (below_alloc w10 (.cells #[.bool b6, .slice A6 n6 c6, .slice B6 m6 d6] 27))
  have z3 := z3.below (below_alloc w10 (.cells #[.bool b6, .slice A6 n6 c6, .slice B6 m6 d6] 27))
  have k3 := k3.below (below_alloc w10 (.cells #[.bool b6, .slice A6 n6 c6, .slice B6 m6 d6] 27))
  have z4 := z4.below (below_alloc w10 (.cells #[.bool b6, .slice A6 n6 c6, .slice B6 m6 d6] 27))
  have k4 := k4.below (below_alloc w10 (.cells #[.bool b6, .slice A6 n6 c6, .slice B6 m6 d6] 27))
  have z5 := z5.below (below_alloc w10 (.cells #[.bool b6, .slice A6 n6 c6, .slice B6 m6 d6] 27))
  have k5 := k5.below (below_alloc w10 (.cells #[.bool b6, .slice A6 n6 c6, .slice B6 m6 d6] 27))
  have z6 := z6.below (below_alloc w10 (.cells #[.bool b6, .slice A6 n6 c6, .slice B6 m6 d6] 27))
  have k6 := Bq.new w10 (w10.heap.size) (by simp) (.bool b6) (.slice A6 n6 c6) (.slice B6 m6 d6)
  have B0 := B0.trans ((below_alloc w10 (.cells #[.bool b6, .slice A6 n6 c6, .slice B6 m6 d6] 27)).mono B0.size)
  go_wp2_with fail
  have ks := ks.drew
  have z2 := z2.drew
  have z3 := z3.drew
  have k3 := k3.drew
  have z5 := z5.drew
  have k5 := k5.drew
  have z6 := z6.drew
  have k6 := k6.drew
  have B0 := b_drew B0
  go_region_held3 (fun w' => w'.cell? ⟨w4.heap.size, 0, none⟩ = some (.bool b2) ∧ w'.cell? ⟨w4.heap.size, 1, none⟩ = some (.slice A2 n2 c2) ∧ w'.cell? ⟨w4.heap.size, 2, none⟩ = some (.slice B2 m2 d2) ∧ w'.cell? ⟨w7.heap.size, 0, none⟩ = some (.bool b3) ∧ w'.cell? ⟨w7.heap.size, 1, none⟩ = some (.slice A3 n3 c3) ∧ w'.cell? ⟨w7.heap.size, 2, none⟩ = some (.slice B3 m3 d3) ∧ w'.cell? ⟨w9.heap.size, 0, none⟩ = some (.bool b5) ∧ w'.cell? ⟨w9.heap.size, 1, none⟩ = some (.slice A5 n5 c5) ∧ w'.cell? ⟨w9.heap.size, 2, none⟩ = some (.slice B5 m5 d5) ∧ w'.cell? ⟨w10.heap.size, 0, none⟩ = some (.bool b6) ∧ w'.cell? ⟨w10.heap.size, 1, none⟩ = some (.slice A6 n6 c6) ∧ w'.cell? ⟨w10.heap.size, 2, none⟩ = some (.slice B6 m6 d6)) (first | with_reducible exact ⟨ks.c0, ks.c1, ks.c2, k3.c0, k3.c1, k3.c2, k5.c0, k5.c1, k5.c2, k6.c0, k6.c1, k6.c2⟩)
    (first
      | (go_at_call 15; (with_reducible refine (qcmp_q z2.qv z3.qv ?_ ?_ ?_ ?_ _ HO2.out).mono ?_); omega; omega; omega; omega; rintro e w41 ⟨rfl, bb⟩; have ks := ks.below bb; have z2 := z2.below bb; have z3 := z3.below bb; have k3 := k3.below bb; have z5 := z5.below bb; have k5 := k5.below bb; have z6 := z6.below bb; have k6 := k6.below bb; have B0 := B0.trans (bb.mono B0.size); clear bb)
      | (go_at_call 15; (with_reducible refine (qcmp_q z6.qv z5.qv ?_ ?_ ?_ ?_ _ HO3.out).mono ?_); omega; omega; omega; omega; rintro e w42 ⟨rfl, bb⟩; have ks := ks.below bb; have z2 := z2.below bb; have z3 := z3.below bb; have k3 := k3.below bb; have z5 := z5.below bb; have k5 := k5.below bb; have z6 := z6.below bb; have k6 := k6.below bb; have B0 := B0.trans (bb.mono B0.size); clear bb)
      | (go_at_call 16; (with_reducible refine (qneg_q z6.qv ?_ ?_).mono ?_); omega; omega; rintro e w43 ⟨b7, A7, n7, c7, B7, m7, d7, rfl, z7, bb⟩; have ks := ks.below bb; have z2 := z2.below bb; have z3 := z3.below bb; have k3 := k3.below bb; have z5 := z5.below bb; have k5 := k5.below bb; have z6 := z6.below bb; have k6 := k6.below bb; have B0 := B0.trans (bb.mono B0.size); clear bb)
      | (go_at_call 15; (with_reducible refine (qcmp_q z7.qv z5.qv ?_ ?_ ?_ ?_ _ HO4.out).mono ?_); omega; omega; omega; omega; rintro e w44 ⟨rfl, bb⟩; have ks := ks.below bb; have z2 := z2.below bb; have z3 := z3.below bb; have k3 := k3.below bb; have z5 := z5.below bb; have k5 := k5.below bb; have z6 := z6.below bb; have k6 := k6.below bb; have z7 := z7.below bb; have B0 := B0.trans (bb.mono B0.size); clear bb)
      | (go_at_call 10; (with_reducible refine (alive_walk _ (HT.out.below B0)).mono ?_); rintro e w45 ⟨rfl, bb⟩; have ks := ks.below bb; have z2 := z2.below bb; have z3 := z3.below bb; have k3 := k3.below bb; have z5 := z5.below bb; have k5 := k5.below bb; have z6 := z6.below bb; have k6 := k6.below bb; have B0 := B0.trans (bb.mono B0.size); clear bb))
  go_wp2
  go_ret
  exact ⟨rfl, B0⟩
set_option maxRecDepth 20000 in
set_option maxHeartbeats 8000000 in
theorem measureRounds_n_err {ba : Bool} {Aa : Option Addr} {na ca : Nat} {Ba : Option Addr} {ma da : Nat} {xa : Rat} (w : World) (ha : Qv w (.agg #[.bool ba, .slice Aa na ca, .slice Ba ma da]) xa na ma) (h1 : na ≤ 24 ∧ ma ≤ 24) (hz : ¬ (-1048576 ≤ RatN.roundQ xa ∧ RatN.roundQ xa ≤ 1048576)) (hx : xa < 0) (ht : Tab w) :
    Calls Tryz.prog 8 #[.agg #[.bool ba, .slice Aa na ca, .slice Ba ma da]] w (BoolEnd true w) := by
  have HT := Lib.hid ht
  clear ht
  have hx' : absQ xa = -xa := by simp only [absQ, hx, if_true]
  have l1 := out_limit xa hz
  have hm : ¬ (-1048576 ≤ RatN.roundQ (-xa) ∧ RatN.roundQ (-xa) ≤ 1048576) := by rw [RatN.roundQ_neg]; omega
  obtain ⟨o2, ho2, hd2⟩ := cmp_ge l1
  rw [hx'] at ho2
  have hd2' : decide (0 ≤ o2) = true := decide_eq_true hd2
  obtain ⟨o1, ho1, hd1⟩ := cmp_lt hx
  have hd1' : decide (o1 < 0) = true := decide_eq_true hd1
  clear hx' l1
  have HX := Lib.hid hx
  have HZ := Lib.hid hz
  have HM := Lib.hid hm
  have HO1 := Lib.hid ho1
  have HO2 := Lib.hid ho2
  clear hx hz hm ho1 ho2
  have B0 := below_a1 w (.cells #[.bool ba, .slice Aa na ca, .slice Ba ma da] 27)
  have ha := ha.below B0
  have ka := (Bq.new w (w.heap.size) (by simp) (.bool ba) (.slice Aa na ca) (.slice Ba ma da))
  go_enter Tryz.func8, Tryz.ntmps8
  have ka_0 := ka.c0
  have ka_1 := ka.c1
  have ka_2 := ka.c2
  go_wp2_with fail
  refine (light_yes ba Aa na ca Ba ma da _ _ (by omega) (by omega)).mono ?_
  clear ka_0 ka_1 ka_2
  rintro e w1 ⟨rfl, bb⟩
  have ha := ha.below bb
  have ka := ka.below bb
  have B0 := B0.trans (bb.mono B0.size)
  clear bb
  have ka_0 := ka.c0
  have ka_1 := ka.c1
  have ka_2 := ka.c2
  go_wp2_with fail
  refine (munits_err ha (by omega) (by omega) HZ.out).mono ?_
  clear ka_0 ka_1 ka_2
  rintro e w2 ⟨rfl, bb⟩
  have ha := ha.below bb
  have ka := ka.below bb
  have B0 := B0.trans (bb.mono B0.size)
  clear bb
  have ka_0 := ka.c0
  have ka_1 := ka.c1
  have ka_2 := ka.c2
  go_wp2_with fail
  refine (qneg_q ha (by omega) (by omega)).mono ?_
  clear ka_0 ka_1 ka_2
  rintro e w3 ⟨b1, A1, n1, c1, B1, m1, d1, rfl, z1, bb⟩
  have ha := ha.below bb
  have ka := ka.below bb
  have B0 := B0.trans (bb.mono B0.size)
  clear bb
  have ka_0 := ka.c0
  have ka_1 := ka.c1
  have ka_2 := ka.c2
  go_wp2_with fail
  refine (munits_err z1.qv (by omega) (by omega) HM.out).mono ?_
  clear ka_0 ka_1 ka_2
  rintro e w4 ⟨rfl, bb⟩
  have ha := ha.below bb
  have ka := ka.below bb
  have z1 := z1.below bb
  have B0 := B0.trans (bb.mono B0.size)
  clear bb
  have lka := ka.lt
  have p0 := ka.c0
  have p1 := ka.c1
  have p2 := ka.c2
  have ha := ha.below (below_alloc w4 (.cells #[.bool ba, .slice Aa na ca, .slice Ba ma da] 27))
  have ka := ka.below (below_alloc w4 (.cells #[.bool ba, .slice Aa na ca, .slice Ba ma da] 27))
  have ks := Bq.new w4 (w4.heap.size) (by simp) (.bool ba) (.slice Aa na ca) (.slice Ba ma da)
  have B0 := B0.trans ((below_alloc w4 (.cells #[.bool ba, .slice Aa na ca, .slice Ba ma da] 27)).mono B0.size)
  have hs := ha
  have fs := Fq.new w4 (w4.heap.size) (by simp) (.bool ba) (.slice Aa na ca) (.slice Ba ma da)
  have ka_0 := ka.c0
  have ka_1 := ka.c1
  have ka_2 := ka.c2
  have ks_0 := ks.c0
  have ks_1 := ks.c1
  have ks_2 := ks.c2
  go_wp2_with fail
  refine (qcmp_q ha (qv_zero _) (by omega) (by omega) (by omega) (by omega) _ HO1.out).mono ?_
  clear ka_0 ka_1 ka_2 ks_0 ks_1 ks_2
  rintro e w5 ⟨rfl, bb⟩
  have ha := ha.below bb
  have ka := ka.below bb
  have ks := ks.below bb
  have fs := fs.below bb
  have B0 := B0.trans (bb.mono B0.size)
  clear bb
  clear p0 p1 p2
  have ka_0 := ka.c0
  have ka_1 := ka.c1
  have ka_2 := ka.c2
  have ks_0 := ks.c0
  have ks_1 := ks.c1
  have ks_2 := ks.c2
  go_wp2_with fail
  refine (qneg_q ha (by omega) (by omega)).mono ?_
  clear ka_0 ka_1 ka_2 ks_0 ks_1 ks_2
  rintro e w6 ⟨b2, A2, n2, c2, B2, m2, d2, rfl, z2, bb⟩
  have ha := ha.below bb
  have ka := ka.below bb
  have ks := ks.below bb
  have fs := fs.below bb
  have B0 := B0.trans (bb.mono B0.size)
  clear bb
  have ka_0 := ka.c0
  have ka_1 := ka.c1
  have ka_2 := ka.c2
  have ks_0 := ks.c0
  have ks_1 := ks.c1
  have ks_2 := ks.c2
  have f1 := fs.2.1
  have f2 := fs.2.2.1
  have f3 := fs.2.2.2
  go_wp2_with fail
  clear f1 f2 f3
  clear ka_0 ka_1 ka_2 ks_0 ks_1 ks_2
  have z2 := z2.over ks (.bool b2) (.slice A2 n2 c2) (.slice B2 m2 d2)
  have ks' := ks.over (.bool b2) (.slice A2 n2 c2) (.slice B2 m2 d2)
  have ha := ha.over ks (.bool b2) (.slice A2 n2 c2) (.slice B2 m2 d2)
  have ka := ka.ret3 (r := w4.heap.size) (by omega) (.bool b2) (.slice A2 n2 c2) (.slice B2 m2 d2)
  have B0 := below_ret3 (g := w4.heap.size) B0 (by omega) (.bool b2) (.slice A2 n2 c2) (.slice B2 m2 d2)
  have ks := ks'
  clear fs ks'
  refine (qof_p 2097153 2 (by decide) (by decide) (by decide) (by decide) _ (by decide) _ rfl).mono ?_
  rintro e w7 ⟨b3, A3, n3, c3, B3, m3, d3, rfl, z3, bb⟩
  have ha := ha.below bb
  have ka := ka.below bb
  have ks := ks.below bb
  have z2 := z2.below bb
  have B0 := B0.trans (bb.mono B0.size)
  clear bb
  have ha := ha.below (below_alloc w7 (.cells #[.bool b3, .slice A3 n3 c3, .slice B3 m3 d3] 27))
  have ka := ka.below (below_alloc w7 (.cells #[.bool b3, .slice A3 n3 c3, .slice B3 m3 d3] 27))
  have ks := ks.below (below_alloc w7 (.cells #[.bool b3, .slice A3 n3 c3, .slice B3 m3 d3] 27))
  have z2 := z2.below (below_alloc w7 (.cells #[.bool b3, .slice A3 n3 c3, .slice B3 m3 d3] 27))
  have z3 := z3.below (below_alloc w7 (.cells #[.bool b3, .slice A3 n3 c3, .slice B3 m3 d3] 27))
  have k3 := Bq.new w7 (w7.heap.size) (by simp) (.bool b3) (.slice A3 n3 c3) (.slice B3 m3 d3)
  have B0 := B0.trans ((below_alloc w7 (.cells #[.bool b3, .slice A3 n3 c3, .slice B3 m3 d3] 27)).mono B0.size)
  have ka_0 := ka.c0
  have ka_1 := ka.c1
  have ka_2 := ka.c2
  have ks_0 := ks.c0
  have ks_1 := ks.c1
  have ks_2 := ks.c2
  have k3_0 := k3.c0
  have k3_1 := k3.c1
  have k3_2 := k3.c2
  go_wp2_with fail
  refine (qcmp_q z2.qv z3.qv (by omega) (by omega) (by omega) (by omega) _ HO2.out).mono ?_
  clear ka_0 ka_1 ka_2 ks_0 ks_1 ks_2 k3_0 k3_1 k3_2
  rintro e w8 ⟨rfl, bb⟩
  have ha := ha.below bb
  have ka := ka.below bb
  have ks := ks.below bb
  have z2 := z2.below bb
  have z3 := z3.below bb
  have k3 := k3.below bb
  have B0 := B0.trans (bb.mono B0.size)
  clear bb
  have ka_0 := ka.c0
  have ka_1 := ka.c1
  have ka_2 := ka.c2
  have ks_0 := ks.c0
  have ks_1 := ks.c1
  have ks_2 := ks.c2
  have k3_0 := k3.c0
  have k3_1 := k3.c1
  have k3_2 := k3.c2
  go_wp2_with fail
  refine (alive_walk _ (HT.out.below B0)).mono ?_
  clear ka_0 ka_1 ka_2 ks_0 ks_1 ks_2 k3_0 k3_1 k3_2
  rintro e w9 ⟨rfl, bb⟩
  have ha := ha.below bb
  have ka := ka.below bb
  have ks := ks.below bb
  have z2 := z2.below bb
  have z3 := z3.below bb
  have k3 := k3.below bb
  have B0 := B0.trans (bb.mono B0.size)
  clear bb
  go_wp2
  go_ret
  exact ⟨rfl, B0⟩
theorem measureRounds_walk {va : Value} {xa : Rat} {ka ja : Nat} (w : World) (ha : Qv w va xa ka ja) (ht : Tab w) : Calls Tryz.prog 8 #[va] w (BoolEnd true w) := by
  obtain ⟨ba, Aa, na, ca, Ba, ma, da, rfl, _, _, ha⟩ := ha.named
  by_cases la : 24 < na ∨ 24 < ma
  · exact measureRounds_long_a w la ht
  by_cases hz : -1048576 ≤ RatN.roundQ xa ∧ RatN.roundQ xa ≤ 1048576
  · by_cases hx : xa < 0
    · exact measureRounds_n_ok w ha (by omega) hz hx ht
    · exact measureRounds_p_ok w ha (by omega) hz hx ht
  · by_cases hx : xa < 0
    · exact measureRounds_n_err w ha (by omega) hz hx ht
    · exact measureRounds_p_err w ha (by omega) hz hx ht
end Go.Proofs.YtohlilgnognmgaaGreatDoor
