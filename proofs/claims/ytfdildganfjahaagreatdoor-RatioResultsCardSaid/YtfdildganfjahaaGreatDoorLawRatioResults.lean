/-
  The walk of garmentlaw03.RatioResults: it returns true, whatever the input.
-/
import Derived.Test.YtfdildganfjahaaGreatDoorRatE
import Derived.Test.YtfdildganfjahaaGreatDoorRRat
import Derived.Deep.RegionWith
namespace Go.Proofs.YtfdildganfjahaaGreatDoor
open Go.RowKit
attribute [local go_sem ↓] Go.wp_at_zero Go.wp_at_succ
set_option linter.unusedVariables false

theorem lawlight {ba : Bool} {Aa : Option Addr} {na ca : Nat} {Ba : Option Addr} {ma da : Nat} {bp : Bool} {Ap : Option Addr} {np cp : Nat} {Bp : Option Addr} {mp dp : Nat} (w : World) (h1 : na ≤ 10 ∧ ma ≤ 10) (h2 : np ≤ 10 ∧ mp ≤ 10) : Calls Tryz.prog 7 #[.agg #[.bool ba, .slice Aa na ca, .slice Ba ma da], .agg #[.bool bp, .slice Ap np cp, .slice Bp mp dp]] w (BoolEnd true w) := by
  have B0 := below_a2 w (.cells #[.bool ba, .slice Aa na ca, .slice Ba ma da] 27) (.cells #[.bool bp, .slice Ap np cp, .slice Bp mp dp] 27)
  have ka := ((Bq.new w (w.heap.size) (by simp) (.bool ba) (.slice Aa na ca) (.slice Ba ma da)).below (below_alloc (w.alloc (.cells #[.bool ba, .slice Aa na ca, .slice Ba ma da] 27)) (.cells #[.bool bp, .slice Ap np cp, .slice Bp mp dp] 27)))
  have kp := (Bq.new (w.alloc (.cells #[.bool ba, .slice Aa na ca, .slice Ba ma da] 27)) (w.heap.size + 1) (by simp) (.bool bp) (.slice Ap np cp) (.slice Bp mp dp))
  go_enter Tryz.func7, Tryz.ntmps7
  have ka_0 := ka.c0
  have ka_1 := ka.c1
  have ka_2 := ka.c2
  have kp_0 := kp.c0
  have kp_1 := kp.c1
  have kp_2 := kp.c2
  go_wp2_with fail
  refine (light_yes ba Aa na ca Ba ma da _ _ (by omega) (by omega)).mono ?_
  clear ka_0 ka_1 ka_2 kp_0 kp_1 kp_2
  rintro e w1 ⟨rfl, bb⟩
  have ka := ka.below bb
  have kp := kp.below bb
  have B0 := B0.trans (bb.mono B0.size)
  clear bb
  have ka_0 := ka.c0
  have ka_1 := ka.c1
  have ka_2 := ka.c2
  have kp_0 := kp.c0
  have kp_1 := kp.c1
  have kp_2 := kp.c2
  go_wp2_with fail
  refine (light_yes bp Ap np cp Bp mp dp _ _ (by omega) (by omega)).mono ?_
  clear ka_0 ka_1 ka_2 kp_0 kp_1 kp_2
  rintro e w2 ⟨rfl, bb⟩
  have ka := ka.below bb
  have kp := kp.below bb
  have B0 := B0.trans (bb.mono B0.size)
  clear bb
  go_wp2
  go_ret
  exact ⟨rfl, B0⟩
theorem lawlight_a {ba : Bool} {Aa : Option Addr} {na ca : Nat} {Ba : Option Addr} {ma da : Nat} {bp : Bool} {Ap : Option Addr} {np cp : Nat} {Bp : Option Addr} {mp dp : Nat} (w : World) (hl : 10 < na ∨ 10 < ma) : Calls Tryz.prog 7 #[.agg #[.bool ba, .slice Aa na ca, .slice Ba ma da], .agg #[.bool bp, .slice Ap np cp, .slice Bp mp dp]] w (BoolEnd false w) := by
  have B0 := below_a2 w (.cells #[.bool ba, .slice Aa na ca, .slice Ba ma da] 27) (.cells #[.bool bp, .slice Ap np cp, .slice Bp mp dp] 27)
  have ka := ((Bq.new w (w.heap.size) (by simp) (.bool ba) (.slice Aa na ca) (.slice Ba ma da)).below (below_alloc (w.alloc (.cells #[.bool ba, .slice Aa na ca, .slice Ba ma da] 27)) (.cells #[.bool bp, .slice Ap np cp, .slice Bp mp dp] 27)))
  have kp := (Bq.new (w.alloc (.cells #[.bool ba, .slice Aa na ca, .slice Ba ma da] 27)) (w.heap.size + 1) (by simp) (.bool bp) (.slice Ap np cp) (.slice Bp mp dp))
  go_enter Tryz.func7, Tryz.ntmps7
  have ka_0 := ka.c0
  have ka_1 := ka.c1
  have ka_2 := ka.c2
  have kp_0 := kp.c0
  have kp_1 := kp.c1
  have kp_2 := kp.c2
  go_wp2_with fail
  refine (light_not ba Aa na ca Ba ma da _ _ (by omega)).mono ?_
  clear ka_0 ka_1 ka_2 kp_0 kp_1 kp_2
  rintro e w1 ⟨rfl, bb⟩
  have ka := ka.below bb
  have kp := kp.below bb
  have B0 := B0.trans (bb.mono B0.size)
  clear bb
  go_wp2
  go_ret
  exact ⟨rfl, B0⟩
theorem lawlight_p {ba : Bool} {Aa : Option Addr} {na ca : Nat} {Ba : Option Addr} {ma da : Nat} {bp : Bool} {Ap : Option Addr} {np cp : Nat} {Bp : Option Addr} {mp dp : Nat} (w : World) (h1 : na ≤ 10 ∧ ma ≤ 10) (hl : 10 < np ∨ 10 < mp) : Calls Tryz.prog 7 #[.agg #[.bool ba, .slice Aa na ca, .slice Ba ma da], .agg #[.bool bp, .slice Ap np cp, .slice Bp mp dp]] w (BoolEnd false w) := by
  have B0 := below_a2 w (.cells #[.bool ba, .slice Aa na ca, .slice Ba ma da] 27) (.cells #[.bool bp, .slice Ap np cp, .slice Bp mp dp] 27)
  have ka := ((Bq.new w (w.heap.size) (by simp) (.bool ba) (.slice Aa na ca) (.slice Ba ma da)).below (below_alloc (w.alloc (.cells #[.bool ba, .slice Aa na ca, .slice Ba ma da] 27)) (.cells #[.bool bp, .slice Ap np cp, .slice Bp mp dp] 27)))
  have kp := (Bq.new (w.alloc (.cells #[.bool ba, .slice Aa na ca, .slice Ba ma da] 27)) (w.heap.size + 1) (by simp) (.bool bp) (.slice Ap np cp) (.slice Bp mp dp))
  go_enter Tryz.func7, Tryz.ntmps7
  have ka_0 := ka.c0
  have ka_1 := ka.c1
  have ka_2 := ka.c2
  have kp_0 := kp.c0
  have kp_1 := kp.c1
  have kp_2 := kp.c2
  go_wp2_with fail
  refine (light_yes ba Aa na ca Ba ma da _ _ (by omega) (by omega)).mono ?_
  clear ka_0 ka_1 ka_2 kp_0 kp_1 kp_2
  rintro e w1 ⟨rfl, bb⟩
  have ka := ka.below bb
  have kp := kp.below bb
  have B0 := B0.trans (bb.mono B0.size)
  clear bb
  have ka_0 := ka.c0
  have ka_1 := ka.c1
  have ka_2 := ka.c2
  have kp_0 := kp.c0
  have kp_1 := kp.c1
  have kp_2 := kp.c2
  go_wp2_with fail
  refine (light_not bp Ap np cp Bp mp dp _ _ (by omega)).mono ?_
  clear ka_0 ka_1 ka_2 kp_0 kp_1 kp_2
  rintro e w2 ⟨rfl, bb⟩
  have ka := ka.below bb
  have kp := kp.below bb
  have B0 := B0.trans (bb.mono B0.size)
  clear bb
  go_wp2
  go_ret
  exact ⟨rfl, B0⟩
set_option maxRecDepth 20000 in
set_option maxHeartbeats 8000000 in
theorem ratioResults_long_a {ba : Bool} {Aa : Option Addr} {na ca : Nat} {Ba : Option Addr} {ma da : Nat} {bp : Bool} {Ap : Option Addr} {np cp : Nat} {Bp : Option Addr} {mp dp : Nat} (w : World) (hl : 10 < na ∨ 10 < ma) (ht : Tab w) :
    Calls Tryz.prog 3 #[.agg #[.bool ba, .slice Aa na ca, .slice Ba ma da], .agg #[.bool bp, .slice Ap np cp, .slice Bp mp dp]] w (BoolEnd true w) := by
  have HT := Lib.hid ht
  clear ht
  have B0 := below_a2 w (.cells #[.bool ba, .slice Aa na ca, .slice Ba ma da] 27) (.cells #[.bool bp, .slice Ap np cp, .slice Bp mp dp] 27)
  have ka := ((Bq.new w (w.heap.size) (by simp) (.bool ba) (.slice Aa na ca) (.slice Ba ma da)).below (below_alloc (w.alloc (.cells #[.bool ba, .slice Aa na ca, .slice Ba ma da] 27)) (.cells #[.bool bp, .slice Ap np cp, .slice Bp mp dp] 27)))
  have kp := (Bq.new (w.alloc (.cells #[.bool ba, .slice Aa na ca, .slice Ba ma da] 27)) (w.heap.size + 1) (by simp) (.bool bp) (.slice Ap np cp) (.slice Bp mp dp))
  go_enter Tryz.func3, Tryz.ntmps3
  have ka_0 := ka.c0
  have ka_1 := ka.c1
  have ka_2 := ka.c2
  have kp_0 := kp.c0
  have kp_1 := kp.c1
  have kp_2 := kp.c2
  go_wp2_with fail
  refine (lawlight_a _ hl).mono ?_
  clear ka_0 ka_1 ka_2 kp_0 kp_1 kp_2
  rintro e w1 ⟨rfl, bb⟩
  have ka := ka.below bb
  have kp := kp.below bb
  have B0 := B0.trans (bb.mono B0.size)
  clear bb
  have ka_0 := ka.c0
  have ka_1 := ka.c1
  have ka_2 := ka.c2
  have kp_0 := kp.c0
  have kp_1 := kp.c1
  have kp_2 := kp.c2
  go_wp2_with fail
  refine (example_walk _ (HT.out.below B0)).mono ?_
  clear ka_0 ka_1 ka_2 kp_0 kp_1 kp_2
  rintro e w2 ⟨rfl, bb⟩
  have ka := ka.below bb
  have kp := kp.below bb
  have B0 := B0.trans (bb.mono B0.size)
  clear bb
  go_wp2
  go_ret
  exact ⟨rfl, B0⟩
set_option maxRecDepth 20000 in
set_option maxHeartbeats 8000000 in
theorem ratioResults_long_p {ba : Bool} {Aa : Option Addr} {na ca : Nat} {Ba : Option Addr} {ma da : Nat} {bp : Bool} {Ap : Option Addr} {np cp : Nat} {Bp : Option Addr} {mp dp : Nat} (w : World) (ha : na ≤ 10 ∧ ma ≤ 10) (hl : 10 < np ∨ 10 < mp) (ht : Tab w) :
    Calls Tryz.prog 3 #[.agg #[.bool ba, .slice Aa na ca, .slice Ba ma da], .agg #[.bool bp, .slice Ap np cp, .slice Bp mp dp]] w (BoolEnd true w) := by
  have HT := Lib.hid ht
  clear ht
  have B0 := below_a2 w (.cells #[.bool ba, .slice Aa na ca, .slice Ba ma da] 27) (.cells #[.bool bp, .slice Ap np cp, .slice Bp mp dp] 27)
  have ka := ((Bq.new w (w.heap.size) (by simp) (.bool ba) (.slice Aa na ca) (.slice Ba ma da)).below (below_alloc (w.alloc (.cells #[.bool ba, .slice Aa na ca, .slice Ba ma da] 27)) (.cells #[.bool bp, .slice Ap np cp, .slice Bp mp dp] 27)))
  have kp := (Bq.new (w.alloc (.cells #[.bool ba, .slice Aa na ca, .slice Ba ma da] 27)) (w.heap.size + 1) (by simp) (.bool bp) (.slice Ap np cp) (.slice Bp mp dp))
  go_enter Tryz.func3, Tryz.ntmps3
  have ka_0 := ka.c0
  have ka_1 := ka.c1
  have ka_2 := ka.c2
  have kp_0 := kp.c0
  have kp_1 := kp.c1
  have kp_2 := kp.c2
  go_wp2_with fail
  refine (lawlight_p _ ha hl).mono ?_
  clear ka_0 ka_1 ka_2 kp_0 kp_1 kp_2
  rintro e w1 ⟨rfl, bb⟩
  have ka := ka.below bb
  have kp := kp.below bb
  have B0 := B0.trans (bb.mono B0.size)
  clear bb
  have ka_0 := ka.c0
  have ka_1 := ka.c1
  have ka_2 := ka.c2
  have kp_0 := kp.c0
  have kp_1 := kp.c1
  have kp_2 := kp.c2
  go_wp2_with fail
  refine (example_walk _ (HT.out.below B0)).mono ?_
  clear ka_0 ka_1 ka_2 kp_0 kp_1 kp_2
  rintro e w2 ⟨rfl, bb⟩
  have ka := ka.below bb
  have kp := kp.below bb
  have B0 := B0.trans (bb.mono B0.size)
  clear bb
  go_wp2
  go_ret
  exact ⟨rfl, B0⟩
set_option maxRecDepth 20000 in
set_option maxHeartbeats 8000000 in
theorem ratioResults_zero {ba : Bool} {Aa : Option Addr} {na ca : Nat} {Ba : Option Addr} {ma da : Nat} {bp : Bool} {Ap : Option Addr} {np cp : Nat} {Bp : Option Addr} {mp dp : Nat} {xa : Rat} {xp : Rat} (w : World) (ha : Qv w (.agg #[.bool ba, .slice Aa na ca, .slice Ba ma da]) xa na ma) (hp : Qv w (.agg #[.bool bp, .slice Ap np cp, .slice Bp mp dp]) xp np mp) (h1 : na ≤ 10 ∧ ma ≤ 10) (h2 : np ≤ 10 ∧ mp ≤ 10) (h0 : xp = 0) (ht : Tab w) :
    Calls Tryz.prog 3 #[.agg #[.bool ba, .slice Aa na ca, .slice Ba ma da], .agg #[.bool bp, .slice Ap np cp, .slice Bp mp dp]] w (BoolEnd true w) := by
  have HT := Lib.hid ht
  clear ht
  have H0 := Lib.hid h0
  clear h0
  obtain ⟨o, ho⟩ : ∃ o, RatN.cmpQ xa xp = o := ⟨_, rfl⟩
  have HO := Lib.hid ho
  clear ho
  have B0 := below_a2 w (.cells #[.bool ba, .slice Aa na ca, .slice Ba ma da] 27) (.cells #[.bool bp, .slice Ap np cp, .slice Bp mp dp] 27)
  have ha := ha.below B0
  have hp := hp.below B0
  have ka := ((Bq.new w (w.heap.size) (by simp) (.bool ba) (.slice Aa na ca) (.slice Ba ma da)).below (below_alloc (w.alloc (.cells #[.bool ba, .slice Aa na ca, .slice Ba ma da] 27)) (.cells #[.bool bp, .slice Ap np cp, .slice Bp mp dp] 27)))
  have kp := (Bq.new (w.alloc (.cells #[.bool ba, .slice Aa na ca, .slice Ba ma da] 27)) (w.heap.size + 1) (by simp) (.bool bp) (.slice Ap np cp) (.slice Bp mp dp))
  go_enter Tryz.func3, Tryz.ntmps3
  have ka_0 := ka.c0
  have ka_1 := ka.c1
  have ka_2 := ka.c2
  have kp_0 := kp.c0
  have kp_1 := kp.c1
  have kp_2 := kp.c2
  go_wp2_with fail
  refine (lawlight _ h1 h2).mono ?_
  clear ka_0 ka_1 ka_2 kp_0 kp_1 kp_2
  rintro e w1 ⟨rfl, bb⟩
  have ha := ha.below bb
  have hp := hp.below bb
  have ka := ka.below bb
  have kp := kp.below bb
  have B0 := B0.trans (bb.mono B0.size)
  clear bb
  have ka_0 := ka.c0
  have ka_1 := ka.c1
  have ka_2 := ka.c2
  have kp_0 := kp.c0
  have kp_1 := kp.c1
  have kp_2 := kp.c2
  go_wp2_with fail
  refine (qdiv_q0 ha hp (by omega) (by omega) (by omega) (by omega) H0.out).mono ?_
  clear ka_0 ka_1 ka_2 kp_0 kp_1 kp_2
  rintro e w2 ⟨rfl, bb⟩
  have ha := ha.below bb
  have hp := hp.below bb
  have ka := ka.below bb
  have kp := kp.below bb
  have B0 := B0.trans (bb.mono B0.size)
  clear bb
  have ha := ha.below (below_alloc w2 (.cells #[.bool false, .slice none 0 0, .slice none 0 0] 27))
  have hp := hp.below (below_alloc w2 (.cells #[.bool false, .slice none 0 0, .slice none 0 0] 27))
  have ka := ka.below (below_alloc w2 (.cells #[.bool false, .slice none 0 0, .slice none 0 0] 27))
  have kp := kp.below (below_alloc w2 (.cells #[.bool false, .slice none 0 0, .slice none 0 0] 27))
  have k1 := Bq.new w2 (w2.heap.size) (by simp) (.bool false) (.slice none 0 0) (.slice none 0 0)
  have B0 := B0.trans ((below_alloc w2 (.cells #[.bool false, .slice none 0 0, .slice none 0 0] 27)).mono B0.size)
  have ka_0 := ka.c0
  have ka_1 := ka.c1
  have ka_2 := ka.c2
  have kp_0 := kp.c0
  have kp_1 := kp.c1
  have kp_2 := kp.c2
  have k1_0 := k1.c0
  have k1_1 := k1.c1
  have k1_2 := k1.c2
  go_wp2_with fail
  refine (rqdiv_0 ha hp (by omega) (by omega) (by omega) (by omega) H0.out).mono ?_
  clear ka_0 ka_1 ka_2 kp_0 kp_1 kp_2 k1_0 k1_1 k1_2
  rintro e w3 ⟨rfl, bb⟩
  have ha := ha.below bb
  have hp := hp.below bb
  have ka := ka.below bb
  have kp := kp.below bb
  have k1 := k1.below bb
  have B0 := B0.trans (bb.mono B0.size)
  clear bb
  have ha := ha.below (below_alloc w3 (.cells #[.bool false, .slice none 0 0, .slice none 0 0] 27))
  have hp := hp.below (below_alloc w3 (.cells #[.bool false, .slice none 0 0, .slice none 0 0] 27))
  have ka := ka.below (below_alloc w3 (.cells #[.bool false, .slice none 0 0, .slice none 0 0] 27))
  have kp := kp.below (below_alloc w3 (.cells #[.bool false, .slice none 0 0, .slice none 0 0] 27))
  have k1 := k1.below (below_alloc w3 (.cells #[.bool false, .slice none 0 0, .slice none 0 0] 27))
  have k2 := Bq.new w3 (w3.heap.size) (by simp) (.bool false) (.slice none 0 0) (.slice none 0 0)
  have B0 := B0.trans ((below_alloc w3 (.cells #[.bool false, .slice none 0 0, .slice none 0 0] 27)).mono B0.size)
  go_wp2_with fail
  have ha := ha.drew
  have hp := hp.drew
  have ka := ka.drew
  have kp := kp.drew
  have k1 := k1.drew
  have k2 := k2.drew
  have B0 := b_drew B0
  go_region_held3 (fun w' => w'.cell? ⟨w.heap.size, 0, none⟩ = some (.bool ba) ∧ w'.cell? ⟨w.heap.size, 1, none⟩ = some (.slice Aa na ca) ∧ w'.cell? ⟨w.heap.size, 2, none⟩ = some (.slice Ba ma da) ∧ w'.cell? ⟨w.heap.size + 1, 0, none⟩ = some (.bool bp) ∧ w'.cell? ⟨w.heap.size + 1, 1, none⟩ = some (.slice Ap np cp) ∧ w'.cell? ⟨w.heap.size + 1, 2, none⟩ = some (.slice Bp mp dp) ∧ w'.cell? ⟨w2.heap.size, 0, none⟩ = some (.bool false) ∧ w'.cell? ⟨w2.heap.size, 1, none⟩ = some (.slice none 0 0) ∧ w'.cell? ⟨w2.heap.size, 2, none⟩ = some (.slice none 0 0) ∧ w'.cell? ⟨w3.heap.size, 0, none⟩ = some (.bool false) ∧ w'.cell? ⟨w3.heap.size, 1, none⟩ = some (.slice none 0 0) ∧ w'.cell? ⟨w3.heap.size, 2, none⟩ = some (.slice none 0 0)) (first | with_reducible exact ⟨ka.c0, ka.c1, ka.c2, kp.c0, kp.c1, kp.c2, k1.c0, k1.c1, k1.c2, k2.c0, k2.c1, k2.c2⟩)
    (first
      | (go_at_call 11; (with_reducible refine (rsame_0 _).mono ?_); rintro e w11 ⟨rfl, bb⟩; have ha := ha.below bb; have hp := hp.below bb; have ka := ka.below bb; have kp := kp.below bb; have k1 := k1.below bb; have k2 := k2.below bb; have B0 := B0.trans (bb.mono B0.size); clear bb)
      | (go_at_call 12; (with_reducible refine (qcmp_q ha hp ?_ ?_ ?_ ?_ _ HO.out).mono ?_); omega; omega; omega; omega; rintro e w12 ⟨rfl, bb⟩; have ha := ha.below bb; have hp := hp.below bb; have ka := ka.below bb; have kp := kp.below bb; have k1 := k1.below bb; have k2 := k2.below bb; have B0 := B0.trans (bb.mono B0.size); clear bb)
      | (go_at_call 13; (with_reducible refine (rqcmp_q ha hp ?_ ?_ ?_ ?_ _ HO.out).mono ?_); omega; omega; omega; omega; rintro e w13 ⟨rfl, bb⟩; have ha := ha.below bb; have hp := hp.below bb; have ka := ka.below bb; have kp := kp.below bb; have k1 := k1.below bb; have k2 := k2.below bb; have B0 := B0.trans (bb.mono B0.size); clear bb))
  go_wp2_with fail
  have ha := ha.drew
  have hp := hp.drew
  have ka := ka.drew
  have kp := kp.drew
  have B0 := b_drew B0
  go_region_held3 (fun w' => w'.cell? ⟨w.heap.size, 0, none⟩ = some (.bool ba) ∧ w'.cell? ⟨w.heap.size, 1, none⟩ = some (.slice Aa na ca) ∧ w'.cell? ⟨w.heap.size, 2, none⟩ = some (.slice Ba ma da) ∧ w'.cell? ⟨w.heap.size + 1, 0, none⟩ = some (.bool bp) ∧ w'.cell? ⟨w.heap.size + 1, 1, none⟩ = some (.slice Ap np cp) ∧ w'.cell? ⟨w.heap.size + 1, 2, none⟩ = some (.slice Bp mp dp)) (first | with_reducible exact ⟨ka.c0, ka.c1, ka.c2, kp.c0, kp.c1, kp.c2⟩)
    (first
      | (go_at_call 14; (with_reducible refine (qnorm_q ha ?_ ?_).mono ?_); omega; omega; rintro e w14 ⟨b11, A11, n11, c11, B11, m11, d11, rfl, z11, bb⟩; have ha := ha.below bb; have hp := hp.below bb; have ka := ka.below bb; have kp := kp.below bb; have B0 := B0.trans (bb.mono B0.size); clear bb)
      | (go_at_call 15; (with_reducible refine (rqnorm_q ha ?_ ?_).mono ?_); omega; omega; rintro e w15 ⟨b12, A12, n12, c12, B12, m12, d12, rfl, z12, bb⟩; have ha := ha.below bb; have hp := hp.below bb; have ka := ka.below bb; have kp := kp.below bb; have z11 := z11.below bb; have B0 := B0.trans (bb.mono B0.size); clear bb)
      | (go_at_call 11; (with_reducible refine (rsame_q z11 z12 (rfl)).mono ?_); rintro e w16 ⟨rfl, bb⟩; have ha := ha.below bb; have hp := hp.below bb; have ka := ka.below bb; have kp := kp.below bb; have z11 := z11.below bb; have z12 := z12.below bb; have B0 := B0.trans (bb.mono B0.size); clear bb)
      | (go_at_call 16; (with_reducible refine (qneg_q ha ?_ ?_).mono ?_); omega; omega; rintro e w17 ⟨b21, A21, n21, c21, B21, m21, d21, rfl, z21, bb⟩; have ha := ha.below bb; have hp := hp.below bb; have ka := ka.below bb; have kp := kp.below bb; have B0 := B0.trans (bb.mono B0.size); clear bb)
      | (go_at_call 17; (with_reducible refine (rqneg_q ha ?_ ?_).mono ?_); omega; omega; rintro e w18 ⟨b22, A22, n22, c22, B22, m22, d22, rfl, z22, bb⟩; have ha := ha.below bb; have hp := hp.below bb; have ka := ka.below bb; have kp := kp.below bb; have z21 := z21.below bb; have B0 := B0.trans (bb.mono B0.size); clear bb)
      | (go_at_call 11; (with_reducible refine (rsame_q z21 z22 (rfl)).mono ?_); rintro e w19 ⟨rfl, bb⟩; have ha := ha.below bb; have hp := hp.below bb; have ka := ka.below bb; have kp := kp.below bb; have z21 := z21.below bb; have z22 := z22.below bb; have B0 := B0.trans (bb.mono B0.size); clear bb)
      | (go_at_call 18; (with_reducible refine (qadd_q ha hp ?_ ?_ ?_ ?_).mono ?_); omega; omega; omega; omega; rintro e w20 ⟨b31, A31, n31, c31, B31, m31, d31, rfl, z31, bb⟩; have ha := ha.below bb; have hp := hp.below bb; have ka := ka.below bb; have kp := kp.below bb; have B0 := B0.trans (bb.mono B0.size); clear bb)
      | (go_at_call 19; (with_reducible refine (rqadd_q ha hp ?_ ?_ ?_ ?_).mono ?_); omega; omega; omega; omega; rintro e w21 ⟨b32, A32, n32, c32, B32, m32, d32, rfl, z32, bb⟩; have ha := ha.below bb; have hp := hp.below bb; have ka := ka.below bb; have kp := kp.below bb; have z31 := z31.below bb; have B0 := B0.trans (bb.mono B0.size); clear bb)
      | (go_at_call 11; (with_reducible refine (rsame_q z31 z32 (rfl)).mono ?_); rintro e w22 ⟨rfl, bb⟩; have ha := ha.below bb; have hp := hp.below bb; have ka := ka.below bb; have kp := kp.below bb; have z31 := z31.below bb; have z32 := z32.below bb; have B0 := B0.trans (bb.mono B0.size); clear bb)
      | (go_at_call 20; (with_reducible refine (qsub_q ha hp ?_ ?_ ?_ ?_).mono ?_); omega; omega; omega; omega; rintro e w23 ⟨b41, A41, n41, c41, B41, m41, d41, rfl, z41, bb⟩; have ha := ha.below bb; have hp := hp.below bb; have ka := ka.below bb; have kp := kp.below bb; have B0 := B0.trans (bb.mono B0.size); clear bb)
      | (go_at_call 21; (with_reducible refine (rqsub_q ha hp ?_ ?_ ?_ ?_).mono ?_); omega; omega; omega; omega; rintro e w24 ⟨b42, A42, n42, c42, B42, m42, d42, rfl, z42, bb⟩; have ha := ha.below bb; have hp := hp.below bb; have ka := ka.below bb; have kp := kp.below bb; have z41 := z41.below bb; have B0 := B0.trans (bb.mono B0.size); clear bb)
      | (go_at_call 11; (with_reducible refine (rsame_q z41 z42 (rfl)).mono ?_); rintro e w25 ⟨rfl, bb⟩; have ha := ha.below bb; have hp := hp.below bb; have ka := ka.below bb; have kp := kp.below bb; have z41 := z41.below bb; have z42 := z42.below bb; have B0 := B0.trans (bb.mono B0.size); clear bb)
      | (go_at_call 22; (with_reducible refine (qmul_q ha hp ?_ ?_ ?_ ?_).mono ?_); omega; omega; omega; omega; rintro e w26 ⟨b51, A51, n51, c51, B51, m51, d51, rfl, z51, bb⟩; have ha := ha.below bb; have hp := hp.below bb; have ka := ka.below bb; have kp := kp.below bb; have B0 := B0.trans (bb.mono B0.size); clear bb)
      | (go_at_call 23; (with_reducible refine (rqmul_q ha hp ?_ ?_ ?_ ?_).mono ?_); omega; omega; omega; omega; rintro e w27 ⟨b52, A52, n52, c52, B52, m52, d52, rfl, z52, bb⟩; have ha := ha.below bb; have hp := hp.below bb; have ka := ka.below bb; have kp := kp.below bb; have z51 := z51.below bb; have B0 := B0.trans (bb.mono B0.size); clear bb)
      | (go_at_call 11; (with_reducible refine (rsame_q z51 z52 (rfl)).mono ?_); rintro e w28 ⟨rfl, bb⟩; have ha := ha.below bb; have hp := hp.below bb; have ka := ka.below bb; have kp := kp.below bb; have z51 := z51.below bb; have z52 := z52.below bb; have B0 := B0.trans (bb.mono B0.size); clear bb)
      | (go_at_call 8; (with_reducible refine (example_walk _ (HT.out.below B0)).mono ?_); rintro e w29 ⟨rfl, bb⟩; have ha := ha.below bb; have hp := hp.below bb; have ka := ka.below bb; have kp := kp.below bb; have B0 := B0.trans (bb.mono B0.size); clear bb))
  go_wp2
  go_ret
  exact ⟨rfl, B0⟩
set_option maxRecDepth 20000 in
set_option maxHeartbeats 8000000 in
theorem ratioResults_pos {ba : Bool} {Aa : Option Addr} {na ca : Nat} {Ba : Option Addr} {ma da : Nat} {bp : Bool} {Ap : Option Addr} {np cp : Nat} {Bp : Option Addr} {mp dp : Nat} {xa : Rat} {xp : Rat} (w : World) (ha : Qv w (.agg #[.bool ba, .slice Aa na ca, .slice Ba ma da]) xa na ma) (hp : Qv w (.agg #[.bool bp, .slice Ap np cp, .slice Bp mp dp]) xp np mp) (h1 : na ≤ 10 ∧ ma ≤ 10) (h2 : np ≤ 10 ∧ mp ≤ 10) (h0 : xp ≠ 0) (ht : Tab w) :
    Calls Tryz.prog 3 #[.agg #[.bool ba, .slice Aa na ca, .slice Ba ma da], .agg #[.bool bp, .slice Ap np cp, .slice Bp mp dp]] w (BoolEnd true w) := by
  have HT := Lib.hid ht
  clear ht
  have H0 := Lib.hid h0
  clear h0
  obtain ⟨o, ho⟩ : ∃ o, RatN.cmpQ xa xp = o := ⟨_, rfl⟩
  have HO := Lib.hid ho
  clear ho
  have B0 := below_a2 w (.cells #[.bool ba, .slice Aa na ca, .slice Ba ma da] 27) (.cells #[.bool bp, .slice Ap np cp, .slice Bp mp dp] 27)
  have ha := ha.below B0
  have hp := hp.below B0
  have ka := ((Bq.new w (w.heap.size) (by simp) (.bool ba) (.slice Aa na ca) (.slice Ba ma da)).below (below_alloc (w.alloc (.cells #[.bool ba, .slice Aa na ca, .slice Ba ma da] 27)) (.cells #[.bool bp, .slice Ap np cp, .slice Bp mp dp] 27)))
  have kp := (Bq.new (w.alloc (.cells #[.bool ba, .slice Aa na ca, .slice Ba ma da] 27)) (w.heap.size + 1) (by simp) (.bool bp) (.slice Ap np cp) (.slice Bp mp dp))
  go_enter Tryz.func3, Tryz.ntmps3
  have ka_0 := ka.c0
  have ka_1 := ka.c1
  have ka_2 := ka.c2
  have kp_0 := kp.c0
  have kp_1 := kp.c1
  have kp_2 := kp.c2
  go_wp2_with fail
  refine (lawlight _ h1 h2).mono ?_
  clear ka_0 ka_1 ka_2 kp_0 kp_1 kp_2
  rintro e w1 ⟨rfl, bb⟩
  have ha := ha.below bb
  have hp := hp.below bb
  have ka := ka.below bb
  have kp := kp.below bb
  have B0 := B0.trans (bb.mono B0.size)
  clear bb
  have ka_0 := ka.c0
  have ka_1 := ka.c1
  have ka_2 := ka.c2
  have kp_0 := kp.c0
  have kp_1 := kp.c1
  have kp_2 := kp.c2
  go_wp2_with fail
  refine (qdiv_q ha hp (by omega) (by omega) (by omega) (by omega) H0.out).mono ?_
  clear ka_0 ka_1 ka_2 kp_0 kp_1 kp_2
  rintro e w2 ⟨b1, A1, n1, c1, B1, m1, d1, rfl, z1, bb⟩
  have ha := ha.below bb
  have hp := hp.below bb
  have ka := ka.below bb
  have kp := kp.below bb
  have B0 := B0.trans (bb.mono B0.size)
  clear bb
  have ha := ha.below (below_alloc w2 (.cells #[.bool b1, .slice A1 n1 c1, .slice B1 m1 d1] 27))
  have hp := hp.below (below_alloc w2 (.cells #[.bool b1, .slice A1 n1 c1, .slice B1 m1 d1] 27))
  have ka := ka.below (below_alloc w2 (.cells #[.bool b1, .slice A1 n1 c1, .slice B1 m1 d1] 27))
  have kp := kp.below (below_alloc w2 (.cells #[.bool b1, .slice A1 n1 c1, .slice B1 m1 d1] 27))
  have z1 := z1.below (below_alloc w2 (.cells #[.bool b1, .slice A1 n1 c1, .slice B1 m1 d1] 27))
  have k1 := Bq.new w2 (w2.heap.size) (by simp) (.bool b1) (.slice A1 n1 c1) (.slice B1 m1 d1)
  have B0 := B0.trans ((below_alloc w2 (.cells #[.bool b1, .slice A1 n1 c1, .slice B1 m1 d1] 27)).mono B0.size)
  have ka_0 := ka.c0
  have ka_1 := ka.c1
  have ka_2 := ka.c2
  have kp_0 := kp.c0
  have kp_1 := kp.c1
  have kp_2 := kp.c2
  have k1_0 := k1.c0
  have k1_1 := k1.c1
  have k1_2 := k1.c2
  go_wp2_with fail
  refine (rqdiv_q ha hp (by omega) (by omega) (by omega) (by omega) H0.out).mono ?_
  clear ka_0 ka_1 ka_2 kp_0 kp_1 kp_2 k1_0 k1_1 k1_2
  rintro e w3 ⟨b2, A2, n2, c2, B2, m2, d2, rfl, z2, bb⟩
  have ha := ha.below bb
  have hp := hp.below bb
  have ka := ka.below bb
  have kp := kp.below bb
  have z1 := z1.below bb
  have k1 := k1.below bb
  have B0 := B0.trans (bb.mono B0.size)
  clear bb
  have ha := ha.below (below_alloc w3 (.cells #[.bool b2, .slice A2 n2 c2, .slice B2 m2 d2] 27))
  have hp := hp.below (below_alloc w3 (.cells #[.bool b2, .slice A2 n2 c2, .slice B2 m2 d2] 27))
  have ka := ka.below (below_alloc w3 (.cells #[.bool b2, .slice A2 n2 c2, .slice B2 m2 d2] 27))
  have kp := kp.below (below_alloc w3 (.cells #[.bool b2, .slice A2 n2 c2, .slice B2 m2 d2] 27))
  have z1 := z1.below (below_alloc w3 (.cells #[.bool b2, .slice A2 n2 c2, .slice B2 m2 d2] 27))
  have k1 := k1.below (below_alloc w3 (.cells #[.bool b2, .slice A2 n2 c2, .slice B2 m2 d2] 27))
  have z2 := z2.below (below_alloc w3 (.cells #[.bool b2, .slice A2 n2 c2, .slice B2 m2 d2] 27))
  have k2 := Bq.new w3 (w3.heap.size) (by simp) (.bool b2) (.slice A2 n2 c2) (.slice B2 m2 d2)
  have B0 := B0.trans ((below_alloc w3 (.cells #[.bool b2, .slice A2 n2 c2, .slice B2 m2 d2] 27)).mono B0.size)
  go_wp2_with fail
  have ha := ha.drew
  have hp := hp.drew
  have ka := ka.drew
  have kp := kp.drew
  have z1 := z1.drew
  have k1 := k1.drew
  have z2 := z2.drew
  have k2 := k2.drew
  have B0 := b_drew B0
  go_region_held3 (fun w' => w'.cell? ⟨w.heap.size, 0, none⟩ = some (.bool ba) ∧ w'.cell? ⟨w.heap.size, 1, none⟩ = some (.slice Aa na ca) ∧ w'.cell? ⟨w.heap.size, 2, none⟩ = some (.slice Ba ma da) ∧ w'.cell? ⟨w.heap.size + 1, 0, none⟩ = some (.bool bp) ∧ w'.cell? ⟨w.heap.size + 1, 1, none⟩ = some (.slice Ap np cp) ∧ w'.cell? ⟨w.heap.size + 1, 2, none⟩ = some (.slice Bp mp dp) ∧ w'.cell? ⟨w2.heap.size, 0, none⟩ = some (.bool b1) ∧ w'.cell? ⟨w2.heap.size, 1, none⟩ = some (.slice A1 n1 c1) ∧ w'.cell? ⟨w2.heap.size, 2, none⟩ = some (.slice B1 m1 d1) ∧ w'.cell? ⟨w3.heap.size, 0, none⟩ = some (.bool b2) ∧ w'.cell? ⟨w3.heap.size, 1, none⟩ = some (.slice A2 n2 c2) ∧ w'.cell? ⟨w3.heap.size, 2, none⟩ = some (.slice B2 m2 d2)) (first | with_reducible exact ⟨ka.c0, ka.c1, ka.c2, kp.c0, kp.c1, kp.c2, k1.c0, k1.c1, k1.c2, k2.c0, k2.c1, k2.c2⟩)
    (first
      | (go_at_call 11; (with_reducible refine (rsame_q z1 z2 rfl).mono ?_); rintro e w11 ⟨rfl, bb⟩; have ha := ha.below bb; have hp := hp.below bb; have ka := ka.below bb; have kp := kp.below bb; have z1 := z1.below bb; have k1 := k1.below bb; have z2 := z2.below bb; have k2 := k2.below bb; have B0 := B0.trans (bb.mono B0.size); clear bb)
      | (go_at_call 12; (with_reducible refine (qcmp_q ha hp ?_ ?_ ?_ ?_ _ HO.out).mono ?_); omega; omega; omega; omega; rintro e w12 ⟨rfl, bb⟩; have ha := ha.below bb; have hp := hp.below bb; have ka := ka.below bb; have kp := kp.below bb; have z1 := z1.below bb; have k1 := k1.below bb; have z2 := z2.below bb; have k2 := k2.below bb; have B0 := B0.trans (bb.mono B0.size); clear bb)
      | (go_at_call 13; (with_reducible refine (rqcmp_q ha hp ?_ ?_ ?_ ?_ _ HO.out).mono ?_); omega; omega; omega; omega; rintro e w13 ⟨rfl, bb⟩; have ha := ha.below bb; have hp := hp.below bb; have ka := ka.below bb; have kp := kp.below bb; have z1 := z1.below bb; have k1 := k1.below bb; have z2 := z2.below bb; have k2 := k2.below bb; have B0 := B0.trans (bb.mono B0.size); clear bb))
  go_wp2_with fail
  have ha := ha.drew
  have hp := hp.drew
  have ka := ka.drew
  have kp := kp.drew
  have B0 := b_drew B0
  go_region_held3 (fun w' => w'.cell? ⟨w.heap.size, 0, none⟩ = some (.bool ba) ∧ w'.cell? ⟨w.heap.size, 1, none⟩ = some (.slice Aa na ca) ∧ w'.cell? ⟨w.heap.size, 2, none⟩ = some (.slice Ba ma da) ∧ w'.cell? ⟨w.heap.size + 1, 0, none⟩ = some (.bool bp) ∧ w'.cell? ⟨w.heap.size + 1, 1, none⟩ = some (.slice Ap np cp) ∧ w'.cell? ⟨w.heap.size + 1, 2, none⟩ = some (.slice Bp mp dp)) (first | with_reducible exact ⟨ka.c0, ka.c1, ka.c2, kp.c0, kp.c1, kp.c2⟩)
    (first
      | (go_at_call 14; (with_reducible refine (qnorm_q ha ?_ ?_).mono ?_); omega; omega; rintro e w14 ⟨b11, A11, n11, c11, B11, m11, d11, rfl, z11, bb⟩; have ha := ha.below bb; have hp := hp.below bb; have ka := ka.below bb; have kp := kp.below bb; have B0 := B0.trans (bb.mono B0.size); clear bb)
      | (go_at_call 15; (with_reducible refine (rqnorm_q ha ?_ ?_).mono ?_); omega; omega; rintro e w15 ⟨b12, A12, n12, c12, B12, m12, d12, rfl, z12, bb⟩; have ha := ha.below bb; have hp := hp.below bb; have ka := ka.below bb; have kp := kp.below bb; have z11 := z11.below bb; have B0 := B0.trans (bb.mono B0.size); clear bb)
      | (go_at_call 11; (with_reducible refine (rsame_q z11 z12 (rfl)).mono ?_); rintro e w16 ⟨rfl, bb⟩; have ha := ha.below bb; have hp := hp.below bb; have ka := ka.below bb; have kp := kp.below bb; have z11 := z11.below bb; have z12 := z12.below bb; have B0 := B0.trans (bb.mono B0.size); clear bb)
      | (go_at_call 16; (with_reducible refine (qneg_q ha ?_ ?_).mono ?_); omega; omega; rintro e w17 ⟨b21, A21, n21, c21, B21, m21, d21, rfl, z21, bb⟩; have ha := ha.below bb; have hp := hp.below bb; have ka := ka.below bb; have kp := kp.below bb; have B0 := B0.trans (bb.mono B0.size); clear bb)
      | (go_at_call 17; (with_reducible refine (rqneg_q ha ?_ ?_).mono ?_); omega; omega; rintro e w18 ⟨b22, A22, n22, c22, B22, m22, d22, rfl, z22, bb⟩; have ha := ha.below bb; have hp := hp.below bb; have ka := ka.below bb; have kp := kp.below bb; have z21 := z21.below bb; have B0 := B0.trans (bb.mono B0.size); clear bb)
      | (go_at_call 11; (with_reducible refine (rsame_q z21 z22 (rfl)).mono ?_); rintro e w19 ⟨rfl, bb⟩; have ha := ha.below bb; have hp := hp.below bb; have ka := ka.below bb; have kp := kp.below bb; have z21 := z21.below bb; have z22 := z22.below bb; have B0 := B0.trans (bb.mono B0.size); clear bb)
      | (go_at_call 18; (with_reducible refine (qadd_q ha hp ?_ ?_ ?_ ?_).mono ?_); omega; omega; omega; omega; rintro e w20 ⟨b31, A31, n31, c31, B31, m31, d31, rfl, z31, bb⟩; have ha := ha.below bb; have hp := hp.below bb; have ka := ka.below bb; have kp := kp.below bb; have B0 := B0.trans (bb.mono B0.size); clear bb)
      | (go_at_call 19; (with_reducible refine (rqadd_q ha hp ?_ ?_ ?_ ?_).mono ?_); omega; omega; omega; omega; rintro e w21 ⟨b32, A32, n32, c32, B32, m32, d32, rfl, z32, bb⟩; have ha := ha.below bb; have hp := hp.below bb; have ka := ka.below bb; have kp := kp.below bb; have z31 := z31.below bb; have B0 := B0.trans (bb.mono B0.size); clear bb)
      | (go_at_call 11; (with_reducible refine (rsame_q z31 z32 (rfl)).mono ?_); rintro e w22 ⟨rfl, bb⟩; have ha := ha.below bb; have hp := hp.below bb; have ka := ka.below bb; have kp := kp.below bb; have z31 := z31.below bb; have z32 := z32.below bb; have B0 := B0.trans (bb.mono B0.size); clear bb)
      | (go_at_call 20; (with_reducible refine (qsub_q ha hp ?_ ?_ ?_ ?_).mono ?_); omega; omega; omega; omega; rintro e w23 ⟨b41, A41, n41, c41, B41, m41, d41, rfl, z41, bb⟩; have ha := ha.below bb; have hp := hp.below bb; have ka := ka.below bb; have kp := kp.below bb; have B0 := B0.trans (bb.mono B0.size); clear bb)
      | (go_at_call 21; (with_reducible refine (rqsub_q ha hp ?_ ?_ ?_ ?_).mono ?_); omega; omega; omega; omega; rintro e w24 ⟨b42, A42, n42, c42, B42, m42, d42, rfl, z42, bb⟩; have ha := ha.below bb; have hp := hp.below bb; have ka := ka.below bb; have kp := kp.below bb; have z41 := z41.below bb; have B0 := B0.trans (bb.mono B0.size); clear bb)
      | (go_at_call 11; (with_reducible refine (rsame_q z41 z42 (rfl)).mono ?_); rintro e w25 ⟨rfl, bb⟩; have ha := ha.below bb; have hp := hp.below bb; have ka := ka.below bb; have kp := kp.below bb; have z41 := z41.below bb; have z42 := z42.below bb; have B0 := B0.trans (bb.mono B0.size); clear bb)
      | (go_at_call 22; (with_reducible refine (qmul_q ha hp ?_ ?_ ?_ ?_).mono ?_); omega; omega; omega; omega; rintro e w26 ⟨b51, A51, n51, c51, B51, m51, d51, rfl, z51, bb⟩; have ha := ha.below bb; have hp := hp.below bb; have ka := ka.below bb; have kp := kp.below bb; have B0 := B0.trans (bb.mono B0.size); clear bb)
      | (go_at_call 23; (with_reducible refine (rqmul_q ha hp ?_ ?_ ?_ ?_).mono ?_); omega; omega; omega; omega; rintro e w27 ⟨b52, A52, n52, c52, B52, m52, d52, rfl, z52, bb⟩; have ha := ha.below bb; have hp := hp.below bb; have ka := ka.below bb; have kp := kp.below bb; have z51 := z51.below bb; have B0 := B0.trans (bb.mono B0.size); clear bb)
      | (go_at_call 11; (with_reducible refine (rsame_q z51 z52 (rfl)).mono ?_); rintro e w28 ⟨rfl, bb⟩; have ha := ha.below bb; have hp := hp.below bb; have ka := ka.below bb; have kp := kp.below bb; have z51 := z51.below bb; have z52 := z52.below bb; have B0 := B0.trans (bb.mono B0.size); clear bb)
      | (go_at_call 8; (with_reducible refine (example_walk _ (HT.out.below B0)).mono ?_); rintro e w29 ⟨rfl, bb⟩; have ha := ha.below bb; have hp := hp.below bb; have ka := ka.below bb; have kp := kp.below bb; have B0 := B0.trans (bb.mono B0.size); clear bb))
  go_wp2
  go_ret
  exact ⟨rfl, B0⟩
theorem ratioResults_walk {va : Value} {xa : Rat} {ka ja : Nat} {vp : Value} {xp : Rat} {kp jp : Nat} (w : World) (ha : Qv w va xa ka ja) (hp : Qv w vp xp kp jp) (ht : Tab w) : Calls Tryz.prog 3 #[va, vp] w (BoolEnd true w) := by
  obtain ⟨ba, Aa, na, ca, Ba, ma, da, rfl, _, _, ha⟩ := ha.named
  obtain ⟨bp, Ap, np, cp, Bp, mp, dp, rfl, _, _, hp⟩ := hp.named
  by_cases la : 10 < na ∨ 10 < ma
  · exact ratioResults_long_a w la ht
  by_cases lp : 10 < np ∨ 10 < mp
  · exact ratioResults_long_p w (by omega) lp ht
  by_cases h0 : xp = 0
  · exact ratioResults_zero w ha hp (by omega) (by omega) h0 ht
  · exact ratioResults_pos w ha hp (by omega) (by omega) h0 ht
end Go.Proofs.YtfdildganfjahaaGreatDoor
