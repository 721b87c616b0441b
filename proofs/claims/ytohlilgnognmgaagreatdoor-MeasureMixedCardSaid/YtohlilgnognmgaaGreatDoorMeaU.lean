/-
  The walks of measure.Units, of the reference's Units and Whole, and of the laws' examples (alive).
-/
import Derived.Test.YtohlilgnognmgaaGreatDoorMeaH
import Derived.Test.YtohlilgnognmgaaGreatDoorRRat
import Derived.Test.YtohlilgnognmgaaGreatDoorJRef
namespace Go.Proofs.YtohlilgnognmgaaGreatDoor
open Go.RowKit Mea
attribute [local go_sem ↓] Go.wp_at_zero Go.wp_at_succ
set_option linter.unusedVariables false

/-- A number and an error's code. -/
def UEnd (z code : Int) (w : World) (e : Ending) (w' : World) : Prop := e = .returned (.tuple #[.int .i64 z, .int .i64 code]) ∧ Below w.heap.size w w'
set_option maxRecDepth 20000 in
set_option maxHeartbeats 2000000 in
theorem munits_in {w : World} {va : Value} {x : Rat} {k j : Nat} (ha : Qv w va x k j) (hk : k ≤ 60) (hj : j ≤ 60) (z : Int) (hz : RatN.roundQ x = z) (h1 : ¬ z < -1048576) (h2 : ¬ (1048576 : Int) < z) : Calls Tryz.prog 11 #[va] w (UEnd z 0 w) := by
  obtain ⟨ba, Aa, na, ca, Ba, ma, da, rfl, _, _, _⟩ := ha.named
  have HZ := Lib.hid hz
  clear hz
  have d1 : decide (z < -1048576) = false := decide_eq_false h1
  have d2 : decide ((1048576 : Int) < z) = false := decide_eq_false h2
  have B0 := below_a1 w (.cells #[.bool ba, .slice Aa na ca, .slice Ba ma da] 27)
  have ha := ha.below B0
  have ka := (Bq.new w (w.heap.size) (by simp) (.bool ba) (.slice Aa na ca) (.slice Ba ma da))
  go_enter Tryz.func11, Tryz.ntmps11
  have ka_0 := ka.c0
  have ka_1 := ka.c1
  have ka_2 := ka.c2
  go_wp2_with fail
  refine (qround_q ha (by omega) (by omega)).mono ?_
  clear ka_0 ka_1 ka_2
  rintro e w1 ⟨v1, rfl, z1, bb⟩
  have ha := ha.below bb
  have ka := ka.below bb
  have B0 := B0.trans (bb.mono B0.size)
  clear bb
  rw [HZ.out] at z1
  have ka_0 := ka.c0
  have ka_1 := ka.c1
  have ka_2 := ka.c2
  go_wp2_with fail
  refine (ismall_yes z1.iv (by omega) (by omega) (by omega)).mono ?_
  clear ka_0 ka_1 ka_2
  rintro e w2 ⟨rfl, bb⟩
  have ha := ha.below bb
  have ka := ka.below bb
  have z1 := z1.below bb
  have B0 := B0.trans (bb.mono B0.size)
  clear bb
  go_wp2
  go_ret2
  exact ⟨rfl, B0⟩
set_option maxRecDepth 20000 in
set_option maxHeartbeats 2000000 in
theorem munits_lo {w : World} {va : Value} {x : Rat} {k j : Nat} (ha : Qv w va x k j) (hk : k ≤ 60) (hj : j ≤ 60) (z : Int) (hz : RatN.roundQ x = z) (h1 : z < -1048576) (h3 : -9223372036854775808 ≤ z) : Calls Tryz.prog 11 #[va] w (UEnd 0 3 w) := by
  obtain ⟨ba, Aa, na, ca, Ba, ma, da, rfl, _, _, _⟩ := ha.named
  have HZ := Lib.hid hz
  clear hz
  have H3 := Lib.hid h3
  clear h3
  have d1 : decide (z < -1048576) = true := decide_eq_true h1
  have d2 : ¬ (1048576 : Int) < z := by omega
  have B0 := below_a1 w (.cells #[.bool ba, .slice Aa na ca, .slice Ba ma da] 27)
  have ha := ha.below B0
  have ka := (Bq.new w (w.heap.size) (by simp) (.bool ba) (.slice Aa na ca) (.slice Ba ma da))
  go_enter Tryz.func11, Tryz.ntmps11
  have ka_0 := ka.c0
  have ka_1 := ka.c1
  have ka_2 := ka.c2
  go_wp2_with fail
  refine (qround_q ha (by omega) (by omega)).mono ?_
  clear ka_0 ka_1 ka_2
  rintro e w1 ⟨v1, rfl, z1, bb⟩
  have ha := ha.below bb
  have ka := ka.below bb
  have B0 := B0.trans (bb.mono B0.size)
  clear bb
  rw [HZ.out] at z1
  have ka_0 := ka.c0
  have ka_1 := ka.c1
  have ka_2 := ka.c2
  go_wp2_with fail
  refine (ismall_yes z1.iv (by omega) (by have := H3.out; omega) (by omega)).mono ?_
  clear ka_0 ka_1 ka_2
  rintro e w2 ⟨rfl, bb⟩
  have ha := ha.below bb
  have ka := ka.below bb
  have z1 := z1.below bb
  have B0 := B0.trans (bb.mono B0.size)
  clear bb
  go_wp2
  go_ret2
  exact ⟨rfl, B0⟩
set_option maxRecDepth 20000 in
set_option maxHeartbeats 2000000 in
theorem munits_hi {w : World} {va : Value} {x : Rat} {k j : Nat} (ha : Qv w va x k j) (hk : k ≤ 60) (hj : j ≤ 60) (z : Int) (hz : RatN.roundQ x = z) (h1 : (1048576 : Int) < z) (h3 : z ≤ 9223372036854775807) : Calls Tryz.prog 11 #[va] w (UEnd 0 3 w) := by
  obtain ⟨ba, Aa, na, ca, Ba, ma, da, rfl, _, _, _⟩ := ha.named
  have HZ := Lib.hid hz
  clear hz
  have H3 := Lib.hid h3
  clear h3
  have d1 : decide ((1048576 : Int) < z) = true := decide_eq_true h1
  have d2 : ¬ z < -1048576 := by omega
  have B0 := below_a1 w (.cells #[.bool ba, .slice Aa na ca, .slice Ba ma da] 27)
  have ha := ha.below B0
  have ka := (Bq.new w (w.heap.size) (by simp) (.bool ba) (.slice Aa na ca) (.slice Ba ma da))
  go_enter Tryz.func11, Tryz.ntmps11
  have ka_0 := ka.c0
  have ka_1 := ka.c1
  have ka_2 := ka.c2
  go_wp2_with fail
  refine (qround_q ha (by omega) (by omega)).mono ?_
  clear ka_0 ka_1 ka_2
  rintro e w1 ⟨v1, rfl, z1, bb⟩
  have ha := ha.below bb
  have ka := ka.below bb
  have B0 := B0.trans (bb.mono B0.size)
  clear bb
  rw [HZ.out] at z1
  have ka_0 := ka.c0
  have ka_1 := ka.c1
  have ka_2 := ka.c2
  go_wp2_with fail
  refine (ismall_yes z1.iv (by omega) (by omega) (by have := H3.out; omega)).mono ?_
  clear ka_0 ka_1 ka_2
  rintro e w2 ⟨rfl, bb⟩
  have ha := ha.below bb
  have ka := ka.below bb
  have z1 := z1.below bb
  have B0 := B0.trans (bb.mono B0.size)
  clear bb
  go_wp2
  go_ret2
  exact ⟨rfl, B0⟩
set_option maxRecDepth 20000 in
set_option maxHeartbeats 2000000 in
theorem munits_no {w : World} {va : Value} {x : Rat} {k j : Nat} (ha : Qv w va x k j) (hk : k ≤ 60) (hj : j ≤ 60) (z : Int) (hz : RatN.roundQ x = z) (h3 : z < -9223372036854775808 ∨ 9223372036854775807 < z) : Calls Tryz.prog 11 #[va] w (UEnd 0 3 w) := by
  obtain ⟨ba, Aa, na, ca, Ba, ma, da, rfl, _, _, _⟩ := ha.named
  have HZ := Lib.hid hz
  clear hz
  have H3 := Lib.hid h3
  clear h3
  have B0 := below_a1 w (.cells #[.bool ba, .slice Aa na ca, .slice Ba ma da] 27)
  have ha := ha.below B0
  have ka := (Bq.new w (w.heap.size) (by simp) (.bool ba) (.slice Aa na ca) (.slice Ba ma da))
  go_enter Tryz.func11, Tryz.ntmps11
  have ka_0 := ka.c0
  have ka_1 := ka.c1
  have ka_2 := ka.c2
  go_wp2_with fail
  refine (qround_q ha (by omega) (by omega)).mono ?_
  clear ka_0 ka_1 ka_2
  rintro e w1 ⟨v1, rfl, z1, bb⟩
  have ha := ha.below bb
  have ka := ka.below bb
  have B0 := B0.trans (bb.mono B0.size)
  clear bb
  rw [HZ.out] at z1
  have ka_0 := ka.c0
  have ka_1 := ka.c1
  have ka_2 := ka.c2
  go_wp2_with fail
  refine (ismall_no z1.iv (by omega) H3.out).mono ?_
  clear ka_0 ka_1 ka_2
  rintro e w2 ⟨rfl, bb⟩
  have ha := ha.below bb
  have ka := ka.below bb
  have z1 := z1.below bb
  have B0 := B0.trans (bb.mono B0.size)
  clear bb
  go_wp2
  go_ret2
  exact ⟨rfl, B0⟩
theorem munits_ok {w : World} {va : Value} {x : Rat} {k j : Nat} (ha : Qv w va x k j) (hk : k ≤ 60) (hj : j ≤ 60) (h : -1048576 ≤ RatN.roundQ x ∧ RatN.roundQ x ≤ 1048576) : Calls Tryz.prog 11 #[va] w (UEnd (RatN.roundQ x) 0 w) := munits_in ha hk hj _ rfl (by omega) (by omega)
theorem munits_err {w : World} {va : Value} {x : Rat} {k j : Nat} (ha : Qv w va x k j) (hk : k ≤ 60) (hj : j ≤ 60) (h : ¬ (-1048576 ≤ RatN.roundQ x ∧ RatN.roundQ x ≤ 1048576)) : Calls Tryz.prog 11 #[va] w (UEnd 0 3 w) := by
  by_cases h3 : RatN.roundQ x < -9223372036854775808 ∨ 9223372036854775807 < RatN.roundQ x
  · exact munits_no ha hk hj _ rfl h3
  · by_cases h1 : RatN.roundQ x < -1048576
    · exact munits_lo ha hk hj _ rfl h1 (by omega)
    · exact munits_hi ha hk hj _ rfl (by omega) (by omega)
set_option maxRecDepth 20000 in
set_option maxHeartbeats 2000000 in
theorem runits_in {w : World} {va : Value} {x : Rat} {k j : Nat} (ha : Qv w va x k j) (hk : k ≤ 60) (hj : j ≤ 60) (z : Int) (hz : RatN.roundQ x = z) (h1 : ¬ z < -1048576) (h2 : ¬ (1048576 : Int) < z) : Calls Tryz.prog 12 #[va] w (UEnd z 0 w) := by
  obtain ⟨ba, Aa, na, ca, Ba, ma, da, rfl, _, _, _⟩ := ha.named
  have HZ := Lib.hid hz
  clear hz
  have d1 : decide (z < -1048576) = false := decide_eq_false h1
  have d2 : decide ((1048576 : Int) < z) = false := decide_eq_false h2
  have B0 := below_a1 w (.cells #[.bool ba, .slice Aa na ca, .slice Ba ma da] 27)
  have ha := ha.below B0
  have ka := (Bq.new w (w.heap.size) (by simp) (.bool ba) (.slice Aa na ca) (.slice Ba ma da))
  go_enter Tryz.func12, Tryz.ntmps12
  have ka_0 := ka.c0
  have ka_1 := ka.c1
  have ka_2 := ka.c2
  go_wp2_with fail
  refine (rqround_q ha (by omega) (by omega)).mono ?_
  clear ka_0 ka_1 ka_2
  rintro e w1 ⟨v1, rfl, z1, bb⟩
  have ha := ha.below bb
  have ka := ka.below bb
  have B0 := B0.trans (bb.mono B0.size)
  clear bb
  rw [HZ.out] at z1
  have ka_0 := ka.c0
  have ka_1 := ka.c1
  have ka_2 := ka.c2
  go_wp2_with fail
  refine (rismall_yes z1.iv (by omega) (by omega) (by omega)).mono ?_
  clear ka_0 ka_1 ka_2
  rintro e w2 ⟨rfl, bb⟩
  have ha := ha.below bb
  have ka := ka.below bb
  have z1 := z1.below bb
  have B0 := B0.trans (bb.mono B0.size)
  clear bb
  go_wp2
  go_ret2
  exact ⟨rfl, B0⟩
set_option maxRecDepth 20000 in
set_option maxHeartbeats 2000000 in
theorem runits_lo {w : World} {va : Value} {x : Rat} {k j : Nat} (ha : Qv w va x k j) (hk : k ≤ 60) (hj : j ≤ 60) (z : Int) (hz : RatN.roundQ x = z) (h1 : z < -1048576) (h3 : -9223372036854775808 ≤ z) : Calls Tryz.prog 12 #[va] w (UEnd 0 3 w) := by
  obtain ⟨ba, Aa, na, ca, Ba, ma, da, rfl, _, _, _⟩ := ha.named
  have HZ := Lib.hid hz
  clear hz
  have H3 := Lib.hid h3
  clear h3
  have d1 : decide (z < -1048576) = true := decide_eq_true h1
  have d2 : ¬ (1048576 : Int) < z := by omega
  have B0 := below_a1 w (.cells #[.bool ba, .slice Aa na ca, .slice Ba ma da] 27)
  have ha := ha.below B0
  have ka := (Bq.new w (w.heap.size) (by simp) (.bool ba) (.slice Aa na ca) (.slice Ba ma da))
  go_enter Tryz.func12, Tryz.ntmps12
  have ka_0 := ka.c0
  have ka_1 := ka.c1
  have ka_2 := ka.c2
  go_wp2_with fail
  refine (rqround_q ha (by omega) (by omega)).mono ?_
  clear ka_0 ka_1 ka_2
  rintro e w1 ⟨v1, rfl, z1, bb⟩
  have ha := ha.below bb
  have ka := ka.below bb
  have B0 := B0.trans (bb.mono B0.size)
  clear bb
  rw [HZ.out] at z1
  have ka_0 := ka.c0
  have ka_1 := ka.c1
  have ka_2 := ka.c2
  go_wp2_with fail
  refine (rismall_yes z1.iv (by omega) (by have := H3.out; omega) (by omega)).mono ?_
  clear ka_0 ka_1 ka_2
  rintro e w2 ⟨rfl, bb⟩
  have ha := ha.below bb
  have ka := ka.below bb
  have z1 := z1.below bb
  have B0 := B0.trans (bb.mono B0.size)
  clear bb
  go_wp2
  go_ret2
  exact ⟨rfl, B0⟩
set_option maxRecDepth 20000 in
set_option maxHeartbeats 2000000 in
theorem runits_hi {w : World} {va : Value} {x : Rat} {k j : Nat} (ha : Qv w va x k j) (hk : k ≤ 60) (hj : j ≤ 60) (z : Int) (hz : RatN.roundQ x = z) (h1 : (1048576 : Int) < z) (h3 : z ≤ 9223372036854775807) : Calls Tryz.prog 12 #[va] w (UEnd 0 3 w) := by
  obtain ⟨ba, Aa, na, ca, Ba, ma, da, rfl, _, _, _⟩ := ha.named
  have HZ := Lib.hid hz
  clear hz
  have H3 := Lib.hid h3
  clear h3
  have d1 : decide ((1048576 : Int) < z) = true := decide_eq_true h1
  have d2 : ¬ z < -1048576 := by omega
  have B0 := below_a1 w (.cells #[.bool ba, .slice Aa na ca, .slice Ba ma da] 27)
  have ha := ha.below B0
  have ka := (Bq.new w (w.heap.size) (by simp) (.bool ba) (.slice Aa na ca) (.slice Ba ma da))
  go_enter Tryz.func12, Tryz.ntmps12
  have ka_0 := ka.c0
  have ka_1 := ka.c1
  have ka_2 := ka.c2
  go_wp2_with fail
  refine (rqround_q ha (by omega) (by omega)).mono ?_
  clear ka_0 ka_1 ka_2
  rintro e w1 ⟨v1, rfl, z1, bb⟩
  have ha := ha.below bb
  have ka := ka.below bb
  have B0 := B0.trans (bb.mono B0.size)
  clear bb
  rw [HZ.out] at z1
  have ka_0 := ka.c0
  have ka_1 := ka.c1
  have ka_2 := ka.c2
  go_wp2_with fail
  refine (rismall_yes z1.iv (by omega) (by omega) (by have := H3.out; omega)).mono ?_
  clear ka_0 ka_1 ka_2
  rintro e w2 ⟨rfl, bb⟩
  have ha := ha.below bb
  have ka := ka.below bb
  have z1 := z1.below bb
  have B0 := B0.trans (bb.mono B0.size)
  clear bb
  go_wp2
  go_ret2
  exact ⟨rfl, B0⟩
set_option maxRecDepth 20000 in
set_option maxHeartbeats 2000000 in
theorem runits_no {w : World} {va : Value} {x : Rat} {k j : Nat} (ha : Qv w va x k j) (hk : k ≤ 60) (hj : j ≤ 60) (z : Int) (hz : RatN.roundQ x = z) (h3 : z < -9223372036854775808 ∨ 9223372036854775807 < z) : Calls Tryz.prog 12 #[va] w (UEnd 0 3 w) := by
  obtain ⟨ba, Aa, na, ca, Ba, ma, da, rfl, _, _, _⟩ := ha.named
  have HZ := Lib.hid hz
  clear hz
  have H3 := Lib.hid h3
  clear h3
  have B0 := below_a1 w (.cells #[.bool ba, .slice Aa na ca, .slice Ba ma da] 27)
  have ha := ha.below B0
  have ka := (Bq.new w (w.heap.size) (by simp) (.bool ba) (.slice Aa na ca) (.slice Ba ma da))
  go_enter Tryz.func12, Tryz.ntmps12
  have ka_0 := ka.c0
  have ka_1 := ka.c1
  have ka_2 := ka.c2
  go_wp2_with fail
  refine (rqround_q ha (by omega) (by omega)).mono ?_
  clear ka_0 ka_1 ka_2
  rintro e w1 ⟨v1, rfl, z1, bb⟩
  have ha := ha.below bb
  have ka := ka.below bb
  have B0 := B0.trans (bb.mono B0.size)
  clear bb
  rw [HZ.out] at z1
  have ka_0 := ka.c0
  have ka_1 := ka.c1
  have ka_2 := ka.c2
  go_wp2_with fail
  refine (rismall_no z1.iv (by omega) H3.out).mono ?_
  clear ka_0 ka_1 ka_2
  rintro e w2 ⟨rfl, bb⟩
  have ha := ha.below bb
  have ka := ka.below bb
  have z1 := z1.below bb
  have B0 := B0.trans (bb.mono B0.size)
  clear bb
  go_wp2
  go_ret2
  exact ⟨rfl, B0⟩
theorem runits_ok {w : World} {va : Value} {x : Rat} {k j : Nat} (ha : Qv w va x k j) (hk : k ≤ 60) (hj : j ≤ 60) (h : -1048576 ≤ RatN.roundQ x ∧ RatN.roundQ x ≤ 1048576) : Calls Tryz.prog 12 #[va] w (UEnd (RatN.roundQ x) 0 w) := runits_in ha hk hj _ rfl (by omega) (by omega)
theorem runits_err {w : World} {va : Value} {x : Rat} {k j : Nat} (ha : Qv w va x k j) (hk : k ≤ 60) (hj : j ≤ 60) (h : ¬ (-1048576 ≤ RatN.roundQ x ∧ RatN.roundQ x ≤ 1048576)) : Calls Tryz.prog 12 #[va] w (UEnd 0 3 w) := by
  by_cases h3 : RatN.roundQ x < -9223372036854775808 ∨ 9223372036854775807 < RatN.roundQ x
  · exact runits_no ha hk hj _ rfl h3
  · by_cases h1 : RatN.roundQ x < -1048576
    · exact runits_lo ha hk hj _ rfl h1 (by omega)
    · exact runits_hi ha hk hj _ rfl (by omega) (by omega)
set_option maxRecDepth 20000 in
set_option maxHeartbeats 2000000 in
theorem rwhole_q (n : Int) (h1 : -9223372036854775808 ≤ n) (h2 : n < 9223372036854775808) (w : World) : Calls Tryz.prog 22 #[.int .i64 n] w (QEnd (n : Rat) 2 2 w) := by
  have H1 := Lib.hid h1
  clear h1
  have H2 := Lib.hid h2
  clear h2
  have B0 := below_a1 w (.cells #[.bool false, .slice none 0 0, .slice none 0 0] 27)
  have kr := (Rq.new w (w.heap.size) (by simp))
  go_enter Tryz.func22, Tryz.ntmps22
  have kr_0 := kr.1
  have kr_1 := kr.2.1
  have kr_2 := kr.2.2.1
  have kr_3 := kr.2.2.2.1
  have kr_4 := kr.2.2.2.2.1
  have kr_5 := kr.2.2.2.2.2
  go_wp2_with fail
  refine (riof_i n H1.out H2.out _).mono ?_
  clear kr_0 kr_1 kr_2 kr_3 kr_4 kr_5
  rintro e w1 ⟨v1, rfl, z1, bb⟩
  have kr := kr.below bb
  have B0 := B0.trans (bb.mono B0.size)
  clear bb
  obtain ⟨b1, A1, n1, c1, rfl, z1⟩ := z1.cells
  have kr_0 := kr.1
  have kr_1 := kr.2.1
  have kr_2 := kr.2.2.1
  have kr_3 := kr.2.2.2.1
  have kr_4 := kr.2.2.2.2.1
  have kr_5 := kr.2.2.2.2.2
  go_wp2_with fail
  refine (rof_z' 1 1 rfl (by decide)).mono ?_
  clear kr_0 kr_1 kr_2 kr_3 kr_4 kr_5
  rintro e w2 ⟨v2, rfl, z2, bb⟩
  have kr := kr.below bb
  have z1 := z1.below bb
  have B0 := B0.trans (bb.mono B0.size)
  clear bb
  obtain ⟨A2, n2, c2, rfl, _, _⟩ := z2.nm.form
  have kr_0 := kr.1
  have kr_1 := kr.2.1
  have kr_2 := kr.2.2.1
  have kr_3 := kr.2.2.2.1
  have kr_4 := kr.2.2.2.2.1
  have kr_5 := kr.2.2.2.2.2
  go_wp2
  refine bodyPost_ret (v := .agg #[.bool b1, .slice A1 n1 c1, .slice A2 n2 c2]) (by simp [results, Tryz.results22, go_sem, kr_0, kr_1, kr_2]) rfl ⟨_, _, _, _, _, _, _, rfl, Qz.mk (z1.ret3 kr _ _ _) (z2.ret3 kr _ _ _) rfl rfl, below_ret3 B0 (by omega) _ _ _⟩
theorem al_p1 : pMea [49, 32, 49, 47, 50, 105, 110] = some ((3810 : Int) : Rat) := by decide
theorem al_p2 : pMea [45, 50, 46, 53, 99, 109] = some ((-2500 : Int) : Rat) := by decide
theorem al_p3 : pMea [48, 53, 109, 109] = none := by decide
theorem al_f1 : fMea ((3810 : Int) : Rat) = some [51, 56, 46, 49, 109, 109] := by decide +kernel
theorem al_f2 : fMea (mkRat (-700) 3) = some [45, 50, 32, 49, 47, 51, 109, 109] := by decide +kernel
theorem al_of1 : ((-700 : Int) : Rat) / ((3 : Int) : Rat) = mkRat (-700) 3 := by decide +kernel
theorem al_of2 : ((-5 : Int) : Rat) / ((2 : Int) : Rat) = mkRat (-5) 2 := by decide +kernel
theorem al_r : RatN.roundQ (mkRat (-5) 2) = -3 := by decide +kernel
theorem al_m1 {w : World} {va : Value} {k j : Nat} (ha : Qv w va ((3810 : Int) : Rat) k j) (hk : k ≤ 60) (hj : j ≤ 60) (ht : Tab w) : Calls Tryz.prog 13 #[va] w (FOk ⟨#[51, 56, 46, 49, 109, 109]⟩ w) := mfmt_ok ha hk hj ht _ al_f1
theorem al_m2 {w : World} {va : Value} {k j : Nat} (ha : Qv w va (mkRat (-700) 3) k j) (hk : k ≤ 60) (hj : j ≤ 60) (ht : Tab w) : Calls Tryz.prog 13 #[va] w (FOk ⟨#[45, 50, 32, 49, 47, 51, 109, 109]⟩ w) := mfmt_ok ha hk hj ht _ al_f2
set_option maxRecDepth 20000 in
set_option maxHeartbeats 8000000 in
theorem alive_walk (w : World) (ht : Tab w) : Calls Tryz.prog 10 #[] w (BoolEnd true w) := by
  have HT := Lib.hid ht
  clear ht
  have B0 := Below.refl w.heap.size w
  go_enter Tryz.func10, Tryz.ntmps10
  go_wp2_with fail
  refine (mparse_yes ⟨#[49, 32, 49, 47, 50, 105, 110]⟩ _ (by decide) _ al_p1).mono ?_
  rintro e w1 ⟨b1, A1, n1, c1, B1, m1, d1, rfl, z1, bb⟩
  have B0 := B0.trans (bb.mono B0.size)
  clear bb
  have z1 := z1.below (below_alloc w1 (.cells #[.bool b1, .slice A1 n1 c1, .slice B1 m1 d1] 27))
  have k1 := Bq.new w1 (w1.heap.size) (by simp) (.bool b1) (.slice A1 n1 c1) (.slice B1 m1 d1)
  have B0 := B0.trans ((below_alloc w1 (.cells #[.bool b1, .slice A1 n1 c1, .slice B1 m1 d1] 27)).mono B0.size)
  have k1_0 := k1.c0
  have k1_1 := k1.c1
  have k1_2 := k1.c2
  go_wp2_with fail
  refine (mparse_yes ⟨#[45, 50, 46, 53, 99, 109]⟩ _ (by decide) _ al_p2).mono ?_
  clear k1_0 k1_1 k1_2
  rintro e w2 ⟨b2, A2, n2, c2, B2, m2, d2, rfl, z2, bb⟩
  have z1 := z1.below bb
  have k1 := k1.below bb
  have B0 := B0.trans (bb.mono B0.size)
  clear bb
  have z1 := z1.below (below_alloc w2 (.cells #[.bool b2, .slice A2 n2 c2, .slice B2 m2 d2] 27))
  have k1 := k1.below (below_alloc w2 (.cells #[.bool b2, .slice A2 n2 c2, .slice B2 m2 d2] 27))
  have z2 := z2.below (below_alloc w2 (.cells #[.bool b2, .slice A2 n2 c2, .slice B2 m2 d2] 27))
  have k2 := Bq.new w2 (w2.heap.size) (by simp) (.bool b2) (.slice A2 n2 c2) (.slice B2 m2 d2)
  have B0 := B0.trans ((below_alloc w2 (.cells #[.bool b2, .slice A2 n2 c2, .slice B2 m2 d2] 27)).mono B0.size)
  have k1_0 := k1.c0
  have k1_1 := k1.c1
  have k1_2 := k1.c2
  have k2_0 := k2.c0
  have k2_1 := k2.c1
  have k2_2 := k2.c2
  go_wp2_with fail
  refine (mparse_no ⟨#[48, 53, 109, 109]⟩ _ (by decide) al_p3).mono ?_
  clear k1_0 k1_1 k1_2 k2_0 k2_1 k2_2
  rintro e w3 ⟨rfl, bb⟩
  have z1 := z1.below bb
  have k1 := k1.below bb
  have z2 := z2.below bb
  have k2 := k2.below bb
  have B0 := B0.trans (bb.mono B0.size)
  clear bb
  have z1 := z1.below (below_alloc w3 (.cells #[.bool false, .slice none 0 0, .slice none 0 0] 27))
  have k1 := k1.below (below_alloc w3 (.cells #[.bool false, .slice none 0 0, .slice none 0 0] 27))
  have z2 := z2.below (below_alloc w3 (.cells #[.bool false, .slice none 0 0, .slice none 0 0] 27))
  have k2 := k2.below (below_alloc w3 (.cells #[.bool false, .slice none 0 0, .slice none 0 0] 27))
  have k3 := Bq.new w3 (w3.heap.size) (by simp) (.bool false) (.slice none 0 0) (.slice none 0 0)
  have B0 := B0.trans ((below_alloc w3 (.cells #[.bool false, .slice none 0 0, .slice none 0 0] 27)).mono B0.size)
  have k1_0 := k1.c0
  have k1_1 := k1.c1
  have k1_2 := k1.c2
  have k2_0 := k2.c0
  have k2_1 := k2.c1
  have k2_2 := k2.c2
  go_wp2_with fail
  refine (rwhole_q 3810 (by decide) (by decide) _).mono ?_
  clear k1_0 k1_1 k1_2 k2_0 k2_1 k2_2
  rintro e w4 ⟨b4, A4, n4, c4, B4, m4, d4, rfl, z4, bb⟩
  have z1 := z1.below bb
  have k1 := k1.below bb
  have z2 := z2.below bb
  have k2 := k2.below bb
  have B0 := B0.trans (bb.mono B0.size)
  clear bb
  have k1_0 := k1.c0
  have k1_1 := k1.c1
  have k1_2 := k1.c2
  have k2_0 := k2.c0
  have k2_1 := k2.c1
  have k2_2 := k2.c2
  go_wp2_with fail
  refine (al_m1 z4.qv (by omega) (by omega) (HT.out.below B0)).mono ?_
  clear k1_0 k1_1 k1_2 k2_0 k2_1 k2_2
  rintro e w5 ⟨rfl, bb⟩
  have z1 := z1.below bb
  have k1 := k1.below bb
  have z2 := z2.below bb
  have k2 := k2.below bb
  have z4 := z4.below bb
  have B0 := B0.trans (bb.mono B0.size)
  clear bb
  have k1_0 := k1.c0
  have k1_1 := k1.c1
  have k1_2 := k1.c2
  have k2_0 := k2.c0
  have k2_1 := k2.c1
  have k2_2 := k2.c2
  go_wp2_with fail
  refine (rqof_p (-700) 3 (by decide) (by decide) (by decide) (by decide) _ (by decide)).mono ?_
  clear k1_0 k1_1 k1_2 k2_0 k2_1 k2_2
  rintro e w6 ⟨b5, A5, n5, c5, B5, m5, d5, rfl, z5, bb⟩
  have z1 := z1.below bb
  have k1 := k1.below bb
  have z2 := z2.below bb
  have k2 := k2.below bb
  have B0 := B0.trans (bb.mono B0.size)
  clear bb
  rw [al_of1] at z5
  have z1 := z1.below (below_alloc w6 (.cells #[.bool b5, .slice A5 n5 c5, .slice B5 m5 d5] 27))
  have k1 := k1.below (below_alloc w6 (.cells #[.bool b5, .slice A5 n5 c5, .slice B5 m5 d5] 27))
  have z2 := z2.below (below_alloc w6 (.cells #[.bool b5, .slice A5 n5 c5, .slice B5 m5 d5] 27))
  have k2 := k2.below (below_alloc w6 (.cells #[.bool b5, .slice A5 n5 c5, .slice B5 m5 d5] 27))
  have z5 := z5.below (below_alloc w6 (.cells #[.bool b5, .slice A5 n5 c5, .slice B5 m5 d5] 27))
  have k5 := Bq.new w6 (w6.heap.size) (by simp) (.bool b5) (.slice A5 n5 c5) (.slice B5 m5 d5)
  have B0 := B0.trans ((below_alloc w6 (.cells #[.bool b5, .slice A5 n5 c5, .slice B5 m5 d5] 27)).mono B0.size)
  have k1_0 := k1.c0
  have k1_1 := k1.c1
  have k1_2 := k1.c2
  have k2_0 := k2.c0
  have k2_1 := k2.c1
  have k2_2 := k2.c2
  have k5_0 := k5.c0
  have k5_1 := k5.c1
  have k5_2 := k5.c2
  go_wp2_with fail
  refine (al_m2 z5.qv (by omega) (by omega) (HT.out.below B0)).mono ?_
  clear k1_0 k1_1 k1_2 k2_0 k2_1 k2_2 k5_0 k5_1 k5_2
  rintro e w7 ⟨rfl, bb⟩
  have z1 := z1.below bb
  have k1 := k1.below bb
  have z2 := z2.below bb
  have k2 := k2.below bb
  have z5 := z5.below bb
  have k5 := k5.below bb
  have B0 := B0.trans (bb.mono B0.size)
  clear bb
  have k1_0 := k1.c0
  have k1_1 := k1.c1
  have k1_2 := k1.c2
  have k2_0 := k2.c0
  have k2_1 := k2.c1
  have k2_2 := k2.c2
  go_wp2_with fail
  refine (rqof_p (-5) 2 (by decide) (by decide) (by decide) (by decide) _ (by decide)).mono ?_
  clear k1_0 k1_1 k1_2 k2_0 k2_1 k2_2
  rintro e w8 ⟨b6, A6, n6, c6, B6, m6, d6, rfl, z6, bb⟩
  have z1 := z1.below bb
  have k1 := k1.below bb
  have z2 := z2.below bb
  have k2 := k2.below bb
  have B0 := B0.trans (bb.mono B0.size)
  clear bb
  rw [al_of2] at z6
  have z1 := z1.below (below_alloc w8 (.cells #[.bool b6, .slice A6 n6 c6, .slice B6 m6 d6] 27))
  have k1 := k1.below (below_alloc w8 (.cells #[.bool b6, .slice A6 n6 c6, .slice B6 m6 d6] 27))
  have z2 := z2.below (below_alloc w8 (.cells #[.bool b6, .slice A6 n6 c6, .slice B6 m6 d6] 27))
  have k2 := k2.below (below_alloc w8 (.cells #[.bool b6, .slice A6 n6 c6, .slice B6 m6 d6] 27))
  have z6 := z6.below (below_alloc w8 (.cells #[.bool b6, .slice A6 n6 c6, .slice B6 m6 d6] 27))
  have k6 := Bq.new w8 (w8.heap.size) (by simp) (.bool b6) (.slice A6 n6 c6) (.slice B6 m6 d6)
  have B0 := B0.trans ((below_alloc w8 (.cells #[.bool b6, .slice A6 n6 c6, .slice B6 m6 d6] 27)).mono B0.size)
  have k1_0 := k1.c0
  have k1_1 := k1.c1
  have k1_2 := k1.c2
  have k2_0 := k2.c0
  have k2_1 := k2.c1
  have k2_2 := k2.c2
  have k6_0 := k6.c0
  have k6_1 := k6.c1
  have k6_2 := k6.c2
  go_wp2_with fail
  refine (munits_in z6.qv (by omega) (by omega) (-3) al_r (by decide) (by decide)).mono ?_
  clear k1_0 k1_1 k1_2 k2_0 k2_1 k2_2 k6_0 k6_1 k6_2
  rintro e w9 ⟨rfl, bb⟩
  have z1 := z1.below bb
  have k1 := k1.below bb
  have z2 := z2.below bb
  have k2 := k2.below bb
  have z6 := z6.below bb
  have k6 := k6.below bb
  have B0 := B0.trans (bb.mono B0.size)
  clear bb
  go_wp2_with fail
  have z1 := z1.drew
  have k1 := k1.drew
  have z2 := z2.drew
  have k2 := k2.drew
  have B0 := b_drew B0
  go_region_held3 (fun w' => w'.cell? ⟨w1.heap.size, 0, none⟩ = some (.bool b1) ∧ w'.cell? ⟨w1.heap.size, 1, none⟩ = some (.slice A1 n1 c1) ∧ w'.cell? ⟨w1.heap.size, 2, none⟩ = some (.slice B1 m1 d1) ∧ w'.cell? ⟨w2.heap.size, 0, none⟩ = some (.bool b2) ∧ w'.cell? ⟨w2.heap.size, 1, none⟩ = some (.slice A2 n2 c2) ∧ w'.cell? ⟨w2.heap.size, 2, none⟩ = some (.slice B2 m2 d2)) (first | with_reducible exact ⟨k1.c0, k1.c1, k1.c2, k2.c0, k2.c1, k2.c2⟩)
    (first
      | (go_at_call 22; (with_reducible refine (rwhole_q 3810 ?_ ?_ _).mono ?_); decide; decide; rintro e w21 ⟨b21, A21, n21, c21, B21, m21, d21, rfl, z21, bb⟩; have z1 := z1.below bb; have k1 := k1.below bb; have z2 := z2.below bb; have k2 := k2.below bb; have B0 := B0.trans (bb.mono B0.size); clear bb)
      | (go_at_call 24; (with_reducible refine (rsame_q z1 z21 rfl).mono ?_); rintro e w22 ⟨rfl, bb⟩; have z1 := z1.below bb; have k1 := k1.below bb; have z2 := z2.below bb; have k2 := k2.below bb; have z21 := z21.below bb; have B0 := B0.trans (bb.mono B0.size); clear bb)
      | (go_at_call 22; (with_reducible refine (rwhole_q (-2500) ?_ ?_ _).mono ?_); decide; decide; rintro e w23 ⟨b22, A22, n22, c22, B22, m22, d22, rfl, z22, bb⟩; have z1 := z1.below bb; have k1 := k1.below bb; have z2 := z2.below bb; have k2 := k2.below bb; have B0 := B0.trans (bb.mono B0.size); clear bb)
      | (go_at_call 24; (with_reducible refine (rsame_q z2 z22 rfl).mono ?_); rintro e w24 ⟨rfl, bb⟩; have z1 := z1.below bb; have k1 := k1.below bb; have z2 := z2.below bb; have k2 := k2.below bb; have z22 := z22.below bb; have B0 := B0.trans (bb.mono B0.size); clear bb))
  go_wp2
  go_ret
  exact ⟨rfl, B0⟩
end Go.Proofs.YtohlilgnognmgaaGreatDoor
