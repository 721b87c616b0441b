/-
  The walk of garmentlaw04.MeasureScales: it returns true, whatever the input.
-/
import Derived.Test.YtohlilgnognmgaaGreatDoorMeaU
namespace Go.Proofs.YtohlilgnognmgaaGreatDoor
open Go.RowKit Mea
attribute [local go_sem ↓] Go.wp_at_zero Go.wp_at_succ
set_option linter.unusedVariables false

theorem sc_list (s u : ByteArray) : (s ++ u).data.toList = s.data.toList ++ u.data.toList := cat_list s u
theorem sc_yes (s u : ByteArray) (w : World) (h : s.size + u.size ≤ 24) (q : Rat) (hm : pMea (s.data.toList ++ u.data.toList) = some q) : Calls Tryz.prog 14 #[.string (s ++ u)] w (MEnd q w) := by
  rw [← sc_list] at hm
  exact mparse_yes _ w (by rw [ByteArray.size_append]; exact h) q hm
theorem sc_no (s u : ByteArray) (w : World) (h : s.size + u.size ≤ 24) (hm : pMea (s.data.toList ++ u.data.toList) = none) : Calls Tryz.prog 14 #[.string (s ++ u)] w (MErr 2 w) := by
  rw [← sc_list] at hm
  exact mparse_no _ w (by rw [ByteArray.size_append]; exact h) hm
set_option maxRecDepth 20000 in
set_option maxHeartbeats 8000000 in
theorem measureScales_long  (s : ByteArray) (w : World) (hs : (22 : Int) < (s.size : Int)) (ht : Tab w) :
    Calls Tryz.prog 6 #[.string s] w (BoolEnd true w) := by
  have HT := Lib.hid ht
  clear ht
  have B0 := Below.refl w.heap.size w
  go_enter Tryz.func6, Tryz.ntmps6
  go_wp2_with fail
  refine (alive_walk _ (HT.out.below B0)).mono ?_
  rintro e w1 ⟨rfl, bb⟩
  have B0 := B0.trans (bb.mono B0.size)
  clear bb
  go_wp2
  go_ret
  exact ⟨rfl, B0⟩
set_option maxRecDepth 20000 in
set_option maxHeartbeats 8000000 in
theorem measureScales_none  (s : ByteArray) (w : World) (hs : s.size ≤ 22) (hp : ∀ w, Calls Tryz.prog 14 #[.string (s ++ ⟨#[109, 109]⟩)] w (MErr 2 w)) (ht : Tab w) :
    Calls Tryz.prog 6 #[.string s] w (BoolEnd true w) := by
  have HT := Lib.hid ht
  clear ht
  have hs' : ¬ (22 : Int) < (s.size : Int) := by omega
  have HP := Lib.hid hp
  clear hp
  have B0 := Below.refl w.heap.size w
  go_enter Tryz.func6, Tryz.ntmps6
  go_wp2_with fail
  refine (HP.out _).mono ?_
  rintro e w1 ⟨rfl, bb⟩
  have B0 := B0.trans (bb.mono B0.size)
  clear bb
  have k1 := Bq.new w1 (w1.heap.size) (by simp) (.bool false) (.slice none 0 0) (.slice none 0 0)
  have B0 := B0.trans ((below_alloc w1 (.cells #[.bool false, .slice none 0 0, .slice none 0 0] 27)).mono B0.size)
  go_wp2_with fail
  refine (alive_walk _ (HT.out.below B0)).mono ?_
  rintro e w2 ⟨rfl, bb⟩
  have B0 := B0.trans (bb.mono B0.size)
  clear bb
  go_wp2
  go_ret
  exact ⟨rfl, B0⟩
set_option maxRecDepth 20000 in
set_option maxHeartbeats 8000000 in
theorem measureScales_ok  (s : ByteArray) (w : World) (hs : s.size ≤ 22) (q : Rat) (hmm : ∀ w, Calls Tryz.prog 14 #[.string (s ++ ⟨#[109, 109]⟩)] w (MEnd q w)) (hcm : ∀ w, Calls Tryz.prog 14 #[.string (s ++ ⟨#[99, 109]⟩)] w (MEnd (q * (((10 : Int) : Rat) / ((1 : Int) : Rat))) w)) (hm : ∀ w, Calls Tryz.prog 14 #[.string (s ++ ⟨#[109]⟩)] w (MEnd (q * (((1000 : Int) : Rat) / ((1 : Int) : Rat))) w)) (hin : ∀ w, Calls Tryz.prog 14 #[.string (s ++ ⟨#[105, 110]⟩)] w (MEnd (q * (((127 : Int) : Rat) / ((5 : Int) : Rat))) w)) (ht : Tab w) :
    Calls Tryz.prog 6 #[.string s] w (BoolEnd true w) := by
  have HT := Lib.hid ht
  clear ht
  have hs' : ¬ (22 : Int) < (s.size : Int) := by omega
  have HMM := Lib.hid hmm
  have HCM := Lib.hid hcm
  have HM := Lib.hid hm
  have HIN := Lib.hid hin
  clear hmm hcm hm hin
  have B0 := Below.refl w.heap.size w
  go_enter Tryz.func6, Tryz.ntmps6
  go_wp2_with fail
  refine (HMM.out _).mono ?_
  rintro e w1 ⟨b1, A1, n1, c1, B1, m1, d1, rfl, z1, bb⟩
  have B0 := B0.trans (bb.mono B0.size)
  clear bb
  have z1 := z1.below (below_alloc w1 (.cells #[.bool b1, .slice A1 n1 c1, .slice B1 m1 d1] 27))
  have k1 := Bq.new w1 (w1.heap.size) (by simp) (.bool b1) (.slice A1 n1 c1) (.slice B1 m1 d1)
  have B0 := B0.trans ((below_alloc w1 (.cells #[.bool b1, .slice A1 n1 c1, .slice B1 m1 d1] 27)).mono B0.size)
  have k1_0 := k1.c0
  have k1_1 := k1.c1
  have k1_2 := k1.c2
  go_wp2_with fail
  refine (HCM.out _).mono ?_
  clear k1_0 k1_1 k1_2
  rintro e w2 ⟨b2, A2, n2, c2, B2, m2, d2, rfl, z2, bb⟩
  have z1 := z1.below bb
  have k1 := k1.below bb
  have B0 := B0.trans (bb.mono B0.size)
  clear bb
  have z1 := z1.below (below_alloc w2 (.cells #[.bool b2, .slice A2 n2 c2, .slice B2 m2 d2] 27))
  have k1 := k1.below (below_alloc w2 (.cells #[.bool b2, .slice A2 n2 c2, .slice B2 m2 d2] 27))
  have z2 := z2.below (below_alloc w2 (.cells #[.bool b2, .slice A2 n2 c2, .slice B2 m2 d2] 27))
  have k2 := Bq.new w2 (w2.heap.size) (by simp) (.bool b2) (.slice A2 n2 c2) (.slice B2 m2 d2)
  have B0 := B0.trans ((below_alloc w2 (.cells #[.bool b2, .slice A2 n2 c2, .slice B2 m2 d2] 27)).mono B0.size)
  have k1_0 := k1.c0
  have k1_1 := k1.c1
  have k1_2 := k1.c2
  have k2_0 := k2.c0
  have k2_1 := k2.c1
  have k2_2 := k2.c2
  go_wp2_with fail
  refine (HM.out _).mono ?_
  clear k1_0 k1_1 k1_2 k2_0 k2_1 k2_2
  rintro e w3 ⟨b3, A3, n3, c3, B3, m3, d3, rfl, z3, bb⟩
  have z1 := z1.below bb
  have k1 := k1.below bb
  have z2 := z2.below bb
  have k2 := k2.below bb
  have B0 := B0.trans (bb.mono B0.size)
  clear bb
  have z1 := z1.below (below_alloc w3 (.cells #[.bool b3, .slice A3 n3 c3, .slice B3 m3 d3] 27))
  have k1 := k1.below (below_alloc w3 (.cells #[.bool b3, .slice A3 n3 c3, .slice B3 m3 d3] 27))
  have z2 := z2.below (below_alloc w3 (.cells #[.bool b3, .slice A3 n3 c3, .slice B3 m3 d3] 27))
  have k2 := k2.below (below_alloc w3 (.cells #[.bool b3, .slice A3 n3 c3, .slice B3 m3 d3] 27))
  have z3 := z3.below (below_alloc w3 (.cells #[.bool b3, .slice A3 n3 c3, .slice B3 m3 d3] 27))
  have k3 := Bq.new w3 (w3.heap.size) (by simp) (.bool b3) (.slice A3 n3 c3) (.slice B3 m3 d3)
  have B0 := B0.trans ((below_alloc w3 (.cells #[.bool b3, .slice A3 n3 c3, .slice B3 m3 d3] 27)).mono B0.size)
  have k1_0 := k1.c0
  have k1_1 := k1.c1
  have k1_2 := k1.c2
  have k2_0 := k2.c0
  have k2_1 := k2.c1
  have k2_2 := k2.c2
  have k3_0 := k3.c0
  have k3_1 := k3.c1
  have k3_2 := k3.c2
  go_wp2_with fail
  refine (HIN.out _).mono ?_
  clear k1_0 k1_1 k1_2 k2_0 k2_1 k2_2 k3_0 k3_1 k3_2
  rintro e w4 ⟨b4, A4, n4, c4, B4, m4, d4, rfl, z4, bb⟩
  have z1 := z1.below bb
  have k1 := k1.below bb
  have z2 := z2.below bb
  have k2 := k2.below bb
  have z3 := z3.below bb
  have k3 := k3.below bb
  have B0 := B0.trans (bb.mono B0.size)
  clear bb
  have z1 := z1.below (below_alloc w4 (.cells #[.bool b4, .slice A4 n4 c4, .slice B4 m4 d4] 27))
  have k1 := k1.below (below_alloc w4 (.cells #[.bool b4, .slice A4 n4 c4, .slice B4 m4 d4] 27))
  have z2 := z2.below (below_alloc w4 (.cells #[.bool b4, .slice A4 n4 c4, .slice B4 m4 d4] 27))
  have k2 := k2.below (below_alloc w4 (.cells #[.bool b4, .slice A4 n4 c4, .slice B4 m4 d4] 27))
  have z3 := z3.below (below_alloc w4 (.cells #[.bool b4, .slice A4 n4 c4, .slice B4 m4 d4] 27))
  have k3 := k3.below (below_alloc w4 (.cells #[.bool b4, .slice A4 n4 c4, .slice B4 m4 d4] 27))
  have z4 := z4.below (below_alloc w4 (.cells #[.bool b4, .slice A4 n4 c4, .slice B4 m4 d4] 27))
  have k4 := Bq.new w4 (w4.heap.size) (by simp) (.bool b4) (.slice A4 n4 c4) (.slice B4 m4 d4)
  have B0 := B0.trans ((below_alloc w4 (.cells #[.bool b4, .slice A4 n4 c4, .slice B4 m4 d4] 27)).mono B0.size)
  have k1_0 := k1.c0
  have k1_1 := k1.c1
  have k1_2 := k1.c2
  have k2_0 := k2.c0
  have k2_1 := k2.c1
  have k2_2 := k2.c2
  have k3_0 := k3.c0
  have k3_1 := k3.c1
  have k3_2 := k3.c2
  have k4_0 := k4.c0
  have k4_1 := k4.c1
  have k4_2 := k4.c2
  go_wp2_with fail
  refine (qof_p 10 1 (by decide) (by decide) (by decide) (by decide) _ (by decide) _ rfl).mono ?_
  clear k1_0 k1_1 k1_2 k2_0 k2_1 k2_2 k3_0 k3_1 k3_2 k4_0 k4_1 k4_2
  rintro e w5 ⟨b5, A5, n5, c5, B5, m5, d5, rfl, z5, bb⟩
  have z1 := z1.below bb
  have k1 := k1.below bb
  have z2 := z2.below bb
  have k2 := k2.below bb
  have z3 := z3.below bb
  have k3 := k3.below bb
  have z4 := z4.below bb
  have k4 := k4.below bb
  have B0 := B0.trans (bb.mono B0.size)
  clear bb
  have z1 := z1.below (below_alloc w5 (.cells #[.bool b5, .slice A5 n5 c5, .slice B5 m5 d5] 27))
  have k1 := k1.below (below_alloc w5 (.cells #[.bool b5, .slice A5 n5 c5, .slice B5 m5 d5] 27))
  have z2 := z2.below (below_alloc w5 (.cells #[.bool b5, .slice A5 n5 c5, .slice B5 m5 d5] 27))
  have k2 := k2.below (below_alloc w5 (.cells #[.bool b5, .slice A5 n5 c5, .slice B5 m5 d5] 27))
  have z3 := z3.below (below_alloc w5 (.cells #[.bool b5, .slice A5 n5 c5, .slice B5 m5 d5] 27))
  have k3 := k3.below (below_alloc w5 (.cells #[.bool b5, .slice A5 n5 c5, .slice B5 m5 d5] 27))
  have z4 := z4.below (below_alloc w5 (.cells #[.bool b5, .slice A5 n5 c5, .slice B5 m5 d5] 27))
  have k4 := k4.below (below_alloc w5 (.cells #[.bool b5, .slice A5 n5 c5, .slice B5 m5 d5] 27))
  have z5 := z5.below (below_alloc w5 (.cells #[.bool b5, .slice A5 n5 c5, .slice B5 m5 d5] 27))
  have k5 := Bq.new w5 (w5.heap.size) (by simp) (.bool b5) (.slice A5 n5 c5) (.slice B5 m5 d5)
  have B0 := B0.trans ((below_alloc w5 (.cells #[.bool b5, .slice A5 n5 c5, .slice B5 m5 d5] 27)).mono B0.size)
  have k1_0 := k1.c0
  have k1_1 := k1.c1
  have k1_2 := k1.c2
  have k2_0 := k2.c0
  have k2_1 := k2.c1
  have k2_2 := k2.c2
  have k3_0 := k3.c0
  have k3_1 := k3.c1
  have k3_2 := k3.c2
  have k4_0 := k4.c0
  have k4_1 := k4.c1
  have k4_2 := k4.c2
  have k5_0 := k5.c0
  have k5_1 := k5.c1
  have k5_2 := k5.c2
  go_wp2_with fail
  refine (qof_p 1000 1 (by decide) (by decide) (by decide) (by decide) _ (by decide) _ rfl).mono ?_
  clear k1_0 k1_1 k1_2 k2_0 k2_1 k2_2 k3_0 k3_1 k3_2 k4_0 k4_1 k4_2 k5_0 k5_1 k5_2
  rintro e w6 ⟨b6, A6, n6, c6, B6, m6, d6, rfl, z6, bb⟩
  have z1 := z1.below bb
  have k1 := k1.below bb
  have z2 := z2.below bb
  have k2 := k2.below bb
  have z3 := z3.below bb
  have k3 := k3.below bb
  have z4 := z4.below bb
  have k4 := k4.below bb
  have z5 := z5.below bb
  have k5 := k5.below bb
  have B0 := B0.trans (bb.mono B0.size)
  clear bb
  have z1 := z1.below (below_alloc w6 (.cells #[.bool b6, .slice A6 n6 c6, .slice B6 m6 d6] 27))
  have k1 := k1.below (below_alloc w6 (.cells #[.bool b6, .slice A6 n6 c6, .slice B6 m6 d6] 27))
  have z2 := z2.below (below_alloc w6 (.cells #[.bool b6, .slice A6 n6 c6, .slice B6 m6 d6] 27))
  have k2 := k2.below (below_alloc w6 (.cells #[.bool b6, .slice A6 n6 c6, .slice B6 m6 d6] 27))
  have z3 := z3.below (below_alloc w6 (.cells #[.bool b6, .slice A6 n6 c6, .slice B6 m6 d6] 27))
  have k3 := k3.below (below_alloc w6 (.cells #[.bool b6, .slice A6 n6 c6, .slice B6 m6 d6] 27))
  have z4 := z4.below (below_alloc w6 (.cells #[.bool b6, .slice A6 n6 c6, .slice B6 m6 d6] 27))
  have k4 := k4.below (below_alloc w6 (.cells #[.bool b6, .slice A6 n6 c6, .slice B6 m6 d6] 27))
  have z5 := z5.below (below_alloc w6 (.cells #[.bool b6, .slice A6 n6 c6, .slice B6 m6 d6] 27))
  have k5 := k5.below (below_alloc w6 (.cells #[.bool b6, .slice A6 n6 c6, .slice B6 m6 d6] 27))
  have z6 := z6.below (below_alloc w6 (.cells #[.bool b6, .slice A6 n6 c6, .slice B6 m6 d6] 27))
  have k6 := Bq.new w6 (w6.heap.size) (by simp) (.bool b6) (.slice A6 n6 c6) (.slice B6 m6 d6)
  have B0 := B0.trans ((below_alloc w6 (.cells #[.bool b6, .slice A6 n6 c6, .slice B6 m6 d6] 27)).mono B0.size)
  have k1_0 := k1.c0
  have k1_1 := k1.c1
  have k1_2 := k1.c2
  have k2_0 := k2.c0
  have k2_1 := k2.c1
  have k2_2 := k2.c2
  have k3_0 := k3.c0
  have k3_1 := k3.c1
  have k3_2 := k3.c2
  have k4_0 := k4.c0
  have k4_1 := k4.c1
  have k4_2 := k4.c2
  have k5_0 := k5.c0
  have k5_1 := k5.c1
  have k5_2 := k5.c2
  have k6_0 := k6.c0
  have k6_1 := k6.c1
  have k6_2 := k6.c2
  go_wp2_with fail
  refine (qof_p 127 5 (by decide) (by decide) (by decide) (by decide) _ (by decide) _ rfl).mono ?_
  clear k1_0 k1_1 k1_2 k2_0 k2_1 k2_2 k3_0 k3_1 k3_2 k4_0 k4_1 k4_2 k5_0 k5_1 k5_2 k6_0 k6_1 k6_2
  rintro e w7 ⟨b7, A7, n7, c7, B7, m7, d7, rfl, z7, bb⟩
  have z1 := z1.below bb
  have k1 := k1.below bb
  have z2 := z2.below bb
  have k2 := k2.below bb
  have z3 := z3.below bb
  have k3 := k3.below bb
  have z4 := z4.below bb
  have k4 := k4.below bb
  have z5 := z5.below bb
  have k5 := k5.below bb
  have z6 := z6.below bb
  have k6 := k6.below bb
  have B0 := B0.trans (bb.mono B0.size)
  clear bb
  have z1 := z1.below (below_alloc w7 (.cells #[.bool b7, .slice A7 n7 c7, .slice B7 m7 d7] 27))
  have k1 := k1.below (below_alloc w7 (.cells #[.bool b7, .slice A7 n7 c7, .slice B7 m7 d7] 27))
  have z2 := z2.below (below_alloc w7 (.cells #[.bool b7, .slice A7 n7 c7, .slice B7 m7 d7] 27))
  have k2 := k2.below (below_alloc w7 (.cells #[.bool b7, .slice A7 n7 c7, .slice B7 m7 d7] 27))
  have z3 := z3.below (below_alloc w7 (.cells #[.bool b7, .slice A7 n7 c7, .slice B7 m7 d7] 27))
  have k3 := k3.below (below_alloc w7 (.cells #[.bool b7, .slice A7 n7 c7, .slice B7 m7 d7] 27))
  have z4 := z4.below (below_alloc w7 (.cells #[.bool b7, .slice A7 n7 c7, .slice B7 m7 d7] 27))
  have k4 := k4.below (below_alloc w7 (.cells #[.bool b7, .slice A7 n7 c7, .slice B7 m7 d7] 27))
  have z5 := z5.below (below_alloc w7 (.cells #[.bool b7, .slice A7 n7 c7, .slice B7 m7 d7] 27))
  have k5 := k5.below (below_alloc w7 (.cells #[.bool b7, .slice A7 n7 c7, .slice B7 m7 d7] 27))
  have z6 := z6.below (below_alloc w7 (.cells #[.bool b7, .slice A7 n7 c7, .slice B7 m7 d7] 27))
  have k6 := k6.below (below_alloc w7 (.cells #[.bool b7, .slice A7 n7 c7, .slice B7 m7 d7] 27))
  have z7 := z7.below (below_alloc w7 (.cells #[.bool b7, .slice A7 n7 c7, .slice B7 m7 d7] 27))
  have k7 := Bq.new w7 (w7.heap.size) (by simp) (.bool b7) (.slice A7 n7 c7) (.slice B7 m7 d7)
  have B0 := B0.trans ((below_alloc w7 (.cells #[.bool b7, .slice A7 n7 c7, .slice B7 m7 d7] 27)).mono B0.size)
  go_wp2_with fail
  have z1 := z1.drew
  have k1 := k1.drew
  have z2 := z2.drew
  have k2 := k2.drew
  have z3 := z3.drew
  have k3 := k3.drew
  have z4 := z4.drew
  have k4 := k4.drew
  have z5 := z5.drew
  have k5 := k5.drew
  have z6 := z6.drew
  have k6 := k6.drew
  have z7 := z7.drew
  have k7 := k7.drew
  have B0 := b_drew B0
  go_region_held3 (fun w' => w'.cell? ⟨w1.heap.size, 0, none⟩ = some (.bool b1) ∧ w'.cell? ⟨w1.heap.size, 1, none⟩ = some (.slice A1 n1 c1) ∧ w'.cell? ⟨w1.heap.size, 2, none⟩ = some (.slice B1 m1 d1) ∧ w'.cell? ⟨w2.heap.size, 0, none⟩ = some (.bool b2) ∧ w'.cell? ⟨w2.heap.size, 1, none⟩ = some (.slice A2 n2 c2) ∧ w'.cell? ⟨w2.heap.size, 2, none⟩ = some (.slice B2 m2 d2) ∧ w'.cell? ⟨w3.heap.size, 0, none⟩ = some (.bool b3) ∧ w'.cell? ⟨w3.heap.size, 1, none⟩ = some (.slice A3 n3 c3) ∧ w'.cell? ⟨w3.heap.size, 2, none⟩ = some (.slice B3 m3 d3) ∧ w'.cell? ⟨w4.heap.size, 0, none⟩ = some (.bool b4) ∧ w'.cell? ⟨w4.heap.size, 1, none⟩ = some (.slice A4 n4 c4) ∧ w'.cell? ⟨w4.heap.size, 2, none⟩ = some (.slice B4 m4 d4) ∧ w'.cell? ⟨w5.heap.size, 0, none⟩ = some (.bool b5) ∧ w'.cell? ⟨w5.heap.size, 1, none⟩ = some (.slice A5 n5 c5) ∧ w'.cell? ⟨w5.heap.size, 2, none⟩ = some (.slice B5 m5 d5) ∧ w'.cell? ⟨w6.heap.size, 0, none⟩ = some (.bool b6) ∧ w'.cell? ⟨w6.heap.size, 1, none⟩ = some (.slice A6 n6 c6) ∧ w'.cell? ⟨w6.heap.size, 2, none⟩ = some (.slice B6 m6 d6) ∧ w'.cell? ⟨w7.heap.size, 0, none⟩ = some (.bool b7) ∧ w'.cell? ⟨w7.heap.size, 1, none⟩ = some (.slice A7 n7 c7) ∧ w'.cell? ⟨w7.heap.size, 2, none⟩ = some (.slice B7 m7 d7)) (first | with_reducible exact ⟨k1.c0, k1.c1, k1.c2, k2.c0, k2.c1, k2.c2, k3.c0, k3.c1, k3.c2, k4.c0, k4.c1, k4.c2, k5.c0, k5.c1, k5.c2, k6.c0, k6.c1, k6.c2, k7.c0, k7.c1, k7.c2⟩)
    (first
      | (go_at_call 18; (with_reducible refine (qmul_q z1.qv z5.qv ?_ ?_ ?_ ?_).mono ?_); omega; omega; omega; omega; rintro e w21 ⟨b11, A11, n11, c11, B11, m11, d11, rfl, z11, bb⟩; have z1 := z1.below bb; have k1 := k1.below bb; have z2 := z2.below bb; have k2 := k2.below bb; have z3 := z3.below bb; have k3 := k3.below bb; have z4 := z4.below bb; have k4 := k4.below bb; have z5 := z5.below bb; have k5 := k5.below bb; have z6 := z6.below bb; have k6 := k6.below bb; have z7 := z7.below bb; have k7 := k7.below bb; have B0 := B0.trans (bb.mono B0.size); clear bb)
      | (go_at_call 15; (with_reducible refine (qcmp_q z2.qv z11.qv ?_ ?_ ?_ ?_ 0 (RatN.cmpQ_self _)).mono ?_); omega; omega; omega; omega; rintro e w22 ⟨rfl, bb⟩; have z1 := z1.below bb; have k1 := k1.below bb; have z2 := z2.below bb; have k2 := k2.below bb; have z3 := z3.below bb; have k3 := k3.below bb; have z4 := z4.below bb; have k4 := k4.below bb; have z5 := z5.below bb; have k5 := k5.below bb; have z6 := z6.below bb; have k6 := k6.below bb; have z7 := z7.below bb; have k7 := k7.below bb; have z11 := z11.below bb; have B0 := B0.trans (bb.mono B0.size); clear bb)
      | (go_at_call 18; (with_reducible refine (qmul_q z1.qv z6.qv ?_ ?_ ?_ ?_).mono ?_); omega; omega; omega; omega; rintro e w23 ⟨b12, A12, n12, c12, B12, m12, d12, rfl, z12, bb⟩; have z1 := z1.below bb; have k1 := k1.below bb; have z2 := z2.below bb; have k2 := k2.below bb; have z3 := z3.below bb; have k3 := k3.below bb; have z4 := z4.below bb; have k4 := k4.below bb; have z5 := z5.below bb; have k5 := k5.below bb; have z6 := z6.below bb; have k6 := k6.below bb; have z7 := z7.below bb; have k7 := k7.below bb; have B0 := B0.trans (bb.mono B0.size); clear bb)
      | (go_at_call 15; (with_reducible refine (qcmp_q z3.qv z12.qv ?_ ?_ ?_ ?_ 0 (RatN.cmpQ_self _)).mono ?_); omega; omega; omega; omega; rintro e w24 ⟨rfl, bb⟩; have z1 := z1.below bb; have k1 := k1.below bb; have z2 := z2.below bb; have k2 := k2.below bb; have z3 := z3.below bb; have k3 := k3.below bb; have z4 := z4.below bb; have k4 := k4.below bb; have z5 := z5.below bb; have k5 := k5.below bb; have z6 := z6.below bb; have k6 := k6.below bb; have z7 := z7.below bb; have k7 := k7.below bb; have z12 := z12.below bb; have B0 := B0.trans (bb.mono B0.size); clear bb)
      | (go_at_call 18; (with_reducible refine (qmul_q z1.qv z7.qv ?_ ?_ ?_ ?_).mono ?_); omega; omega; omega; omega; rintro e w25 ⟨b13, A13, n13, c13, B13, m13, d13, rfl, z13, bb⟩; have z1 := z1.below bb; have k1 := k1.below bb; have z2 := z2.below bb; have k2 := k2.below bb; have z3 := z3.below bb; have k3 := k3.below bb; have z4 := z4.below bb; have k4 := k4.below bb; have z5 := z5.below bb; have k5 := k5.below bb; have z6 := z6.below bb; have k6 := k6.below bb; have z7 := z7.below bb; have k7 := k7.below bb; have B0 := B0.trans (bb.mono B0.size); clear bb)
      | (go_at_call 15; (with_reducible refine (qcmp_q z4.qv z13.qv ?_ ?_ ?_ ?_ 0 (RatN.cmpQ_self _)).mono ?_); omega; omega; omega; omega; rintro e w26 ⟨rfl, bb⟩; have z1 := z1.below bb; have k1 := k1.below bb; have z2 := z2.below bb; have k2 := k2.below bb; have z3 := z3.below bb; have k3 := k3.below bb; have z4 := z4.below bb; have k4 := k4.below bb; have z5 := z5.below bb; have k5 := k5.below bb; have z6 := z6.below bb; have k6 := k6.below bb; have z7 := z7.below bb; have k7 := k7.below bb; have z13 := z13.below bb; have B0 := B0.trans (bb.mono B0.size); clear bb)
      | (go_at_call 10; (with_reducible refine (alive_walk _ (HT.out.below B0)).mono ?_); rintro e w27 ⟨rfl, bb⟩; have z1 := z1.below bb; have k1 := k1.below bb; have z2 := z2.below bb; have k2 := k2.below bb; have z3 := z3.below bb; have k3 := k3.below bb; have z4 := z4.below bb; have k4 := k4.below bb; have z5 := z5.below bb; have k5 := k5.below bb; have z6 := z6.below bb; have k6 := k6.below bb; have z7 := z7.below bb; have k7 := k7.below bb; have B0 := B0.trans (bb.mono B0.size); clear bb))
  go_wp2
  go_ret
  exact ⟨rfl, B0⟩
theorem measureScales_walk (w : World) (s : ByteArray) (hsz : s.size ≤ 9223372036854775807) (ht : Tab w) : Calls Tryz.prog 6 #[.string s] w (BoolEnd true w) := by
  by_cases h22 : 22 < s.size
  · exact measureScales_long s w (by omega) ht
  rcases hp : pMea (s.data.toList ++ [109, 109]) with _ | q
  · exact measureScales_none s w (by omega) (fun w => sc_no s ⟨#[109, 109]⟩ w (by show s.size + 2 ≤ 24; omega) hp) ht
  · have h1 := pMea_scale s.data.toList [99, 109] 1000 (((10 : Int) : Rat) / ((1 : Int) : Rat)) q hp let_cm (by decide) unit_cm (by decide +kernel)
    have h2 := pMea_scale s.data.toList [109] 100000 (((1000 : Int) : Rat) / ((1 : Int) : Rat)) q hp let_m (by decide) unit_m (by decide +kernel)
    have h3 := pMea_scale s.data.toList [105, 110] 2540 (((127 : Int) : Rat) / ((5 : Int) : Rat)) q hp let_in (by decide) unit_in (by decide +kernel)
    exact measureScales_ok s w (by omega) q (fun w => sc_yes s ⟨#[109, 109]⟩ w (by show s.size + 2 ≤ 24; omega) q hp) (fun w => sc_yes s ⟨#[99, 109]⟩ w (by show s.size + 2 ≤ 24; omega) _ h1) (fun w => sc_yes s ⟨#[109]⟩ w (by show s.size + 1 ≤ 24; omega) _ h2) (fun w => sc_yes s ⟨#[105, 110]⟩ w (by show s.size + 2 ≤ 24; omega) _ h3) ht
end Go.Proofs.YtohlilgnognmgaaGreatDoor
