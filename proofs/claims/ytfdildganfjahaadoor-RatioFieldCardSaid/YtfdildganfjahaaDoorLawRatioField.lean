/-
  The walk of garmentlaw03.RatioField: it returns true, whatever the input.
-/
import Derived.Test.YtfdildganfjahaaDoorRatE
namespace Go.Proofs.YtfdildganfjahaaDoor
open Go.RowKit
attribute [local go_sem ↓] Go.wp_at_zero Go.wp_at_succ
set_option linter.unusedVariables false

set_option maxRecDepth 20000 in
set_option maxHeartbeats 8000000 in
theorem ratioField_long_a {ba : Bool} {Aa : Option Addr} {na ca : Nat} {Ba : Option Addr} {ma da : Nat} {bp : Bool} {Ap : Option Addr} {np cp : Nat} {Bp : Option Addr} {mp dp : Nat} {br : Bool} {Ar : Option Addr} {nr cr : Nat} {Br : Option Addr} {mr dr : Nat} (w : World) (hl : 6 < na ∨ 6 < ma) (ht : Tab w) :
    Calls Tryd.prog 4 #[.agg #[.bool ba, .slice Aa na ca, .slice Ba ma da], .agg #[.bool bp, .slice Ap np cp, .slice Bp mp dp], .agg #[.bool br, .slice Ar nr cr, .slice Br mr dr]] w (BoolEnd true w) := by
  have HT := Lib.hid ht
  clear ht
  have B0 := below_a3 w (.cells #[.bool ba, .slice Aa na ca, .slice Ba ma da] 27) (.cells #[.bool bp, .slice Ap np cp, .slice Bp mp dp] 27) (.cells #[.bool br, .slice Ar nr cr, .slice Br mr dr] 27)
  have ka := (((Bq.new w (w.heap.size) (by simp) (.bool ba) (.slice Aa na ca) (.slice Ba ma da)).below (below_alloc (w.alloc (.cells #[.bool ba, .slice Aa na ca, .slice Ba ma da] 27)) (.cells #[.bool bp, .slice Ap np cp, .slice Bp mp dp] 27))).below (below_alloc ((w.alloc (.cells #[.bool ba, .slice Aa na ca, .slice Ba ma da] 27)).alloc (.cells #[.bool bp, .slice Ap np cp, .slice Bp mp dp] 27)) (.cells #[.bool br, .slice Ar nr cr, .slice Br mr dr] 27)))
  have kp := ((Bq.new (w.alloc (.cells #[.bool ba, .slice Aa na ca, .slice Ba ma da] 27)) (w.heap.size + 1) (by simp) (.bool bp) (.slice Ap np cp) (.slice Bp mp dp)).below (below_alloc ((w.alloc (.cells #[.bool ba, .slice Aa na ca, .slice Ba ma da] 27)).alloc (.cells #[.bool bp, .slice Ap np cp, .slice Bp mp dp] 27)) (.cells #[.bool br, .slice Ar nr cr, .slice Br mr dr] 27)))
  have kr := (Bq.new ((w.alloc (.cells #[.bool ba, .slice Aa na ca, .slice Ba ma da] 27)).alloc (.cells #[.bool bp, .slice Ap np cp, .slice Bp mp dp] 27)) (w.heap.size + 1 + 1) (by simp) (.bool br) (.slice Ar nr cr) (.slice Br mr dr))
  go_enter Tryd.func4, Tryd.ntmps4
  have ka_0 := ka.c0
  have ka_1 := ka.c1
  have ka_2 := ka.c2
  have kp_0 := kp.c0
  have kp_1 := kp.c1
  have kp_2 := kp.c2
  have kr_0 := kr.c0
  have kr_1 := kr.c1
  have kr_2 := kr.c2
  go_wp2_with fail
  refine (light_not ba Aa na ca Ba ma da _ _ (by omega)).mono ?_
  clear ka_0 ka_1 ka_2 kp_0 kp_1 kp_2 kr_0 kr_1 kr_2
  rintro e w1 ⟨rfl, bb⟩
  have ka := ka.below bb
  have kp := kp.below bb
  have kr := kr.below bb
  have B0 := B0.trans (bb.mono B0.size)
  clear bb
  have ka_0 := ka.c0
  have ka_1 := ka.c1
  have ka_2 := ka.c2
  have kp_0 := kp.c0
  have kp_1 := kp.c1
  have kp_2 := kp.c2
  have kr_0 := kr.c0
  have kr_1 := kr.c1
  have kr_2 := kr.c2
  go_wp2_with fail
  refine (example_walk _ (HT.out.below B0)).mono ?_
  clear ka_0 ka_1 ka_2 kp_0 kp_1 kp_2 kr_0 kr_1 kr_2
  rintro e w2 ⟨rfl, bb⟩
  have ka := ka.below bb
  have kp := kp.below bb
  have kr := kr.below bb
  have B0 := B0.trans (bb.mono B0.size)
  clear bb
  go_wp2
  go_ret
  exact ⟨rfl, B0⟩
set_option maxRecDepth 20000 in
set_option maxHeartbeats 8000000 in
theorem ratioField_long_p {ba : Bool} {Aa : Option Addr} {na ca : Nat} {Ba : Option Addr} {ma da : Nat} {bp : Bool} {Ap : Option Addr} {np cp : Nat} {Bp : Option Addr} {mp dp : Nat} {br : Bool} {Ar : Option Addr} {nr cr : Nat} {Br : Option Addr} {mr dr : Nat} (w : World) (ha : na ≤ 6 ∧ ma ≤ 6) (hl : 6 < np ∨ 6 < mp) (ht : Tab w) :
    Calls Tryd.prog 4 #[.agg #[.bool ba, .slice Aa na ca, .slice Ba ma da], .agg #[.bool bp, .slice Ap np cp, .slice Bp mp dp], .agg #[.bool br, .slice Ar nr cr, .slice Br mr dr]] w (BoolEnd true w) := by
  have HT := Lib.hid ht
  clear ht
  have B0 := below_a3 w (.cells #[.bool ba, .slice Aa na ca, .slice Ba ma da] 27) (.cells #[.bool bp, .slice Ap np cp, .slice Bp mp dp] 27) (.cells #[.bool br, .slice Ar nr cr, .slice Br mr dr] 27)
  have ka := (((Bq.new w (w.heap.size) (by simp) (.bool ba) (.slice Aa na ca) (.slice Ba ma da)).below (below_alloc (w.alloc (.cells #[.bool ba, .slice Aa na ca, .slice Ba ma da] 27)) (.cells #[.bool bp, .slice Ap np cp, .slice Bp mp dp] 27))).below (below_alloc ((w.alloc (.cells #[.bool ba, .slice Aa na ca, .slice Ba ma da] 27)).alloc (.cells #[.bool bp, .slice Ap np cp, .slice Bp mp dp] 27)) (.cells #[.bool br, .slice Ar nr cr, .slice Br mr dr] 27)))
  have kp := ((Bq.new (w.alloc (.cells #[.bool ba, .slice Aa na ca, .slice Ba ma da] 27)) (w.heap.size + 1) (by simp) (.bool bp) (.slice Ap np cp) (.slice Bp mp dp)).below (below_alloc ((w.alloc (.cells #[.bool ba, .slice Aa na ca, .slice Ba ma da] 27)).alloc (.cells #[.bool bp, .slice Ap np cp, .slice Bp mp dp] 27)) (.cells #[.bool br, .slice Ar nr cr, .slice Br mr dr] 27)))
  have kr := (Bq.new ((w.alloc (.cells #[.bool ba, .slice Aa na ca, .slice Ba ma da] 27)).alloc (.cells #[.bool bp, .slice Ap np cp, .slice Bp mp dp] 27)) (w.heap.size + 1 + 1) (by simp) (.bool br) (.slice Ar nr cr) (.slice Br mr dr))
  go_enter Tryd.func4, Tryd.ntmps4
  have ka_0 := ka.c0
  have ka_1 := ka.c1
  have ka_2 := ka.c2
  have kp_0 := kp.c0
  have kp_1 := kp.c1
  have kp_2 := kp.c2
  have kr_0 := kr.c0
  have kr_1 := kr.c1
  have kr_2 := kr.c2
  go_wp2_with fail
  refine (light_yes ba Aa na ca Ba ma da _ _ (by omega) (by omega)).mono ?_
  clear ka_0 ka_1 ka_2 kp_0 kp_1 kp_2 kr_0 kr_1 kr_2
  rintro e w1 ⟨rfl, bb⟩
  have ka := ka.below bb
  have kp := kp.below bb
  have kr := kr.below bb
  have B0 := B0.trans (bb.mono B0.size)
  clear bb
  have ka_0 := ka.c0
  have ka_1 := ka.c1
  have ka_2 := ka.c2
  have kp_0 := kp.c0
  have kp_1 := kp.c1
  have kp_2 := kp.c2
  have kr_0 := kr.c0
  have kr_1 := kr.c1
  have kr_2 := kr.c2
  go_wp2_with fail
  refine (light_not bp Ap np cp Bp mp dp _ _ (by omega)).mono ?_
  clear ka_0 ka_1 ka_2 kp_0 kp_1 kp_2 kr_0 kr_1 kr_2
  rintro e w2 ⟨rfl, bb⟩
  have ka := ka.below bb
  have kp := kp.below bb
  have kr := kr.below bb
  have B0 := B0.trans (bb.mono B0.size)
  clear bb
  have ka_0 := ka.c0
  have ka_1 := ka.c1
  have ka_2 := ka.c2
  have kp_0 := kp.c0
  have kp_1 := kp.c1
  have kp_2 := kp.c2
  have kr_0 := kr.c0
  have kr_1 := kr.c1
  have kr_2 := kr.c2
  go_wp2_with fail
  refine (example_walk _ (HT.out.below B0)).mono ?_
  clear ka_0 ka_1 ka_2 kp_0 kp_1 kp_2 kr_0 kr_1 kr_2
  rintro e w3 ⟨rfl, bb⟩
  have ka := ka.below bb
  have kp := kp.below bb
  have kr := kr.below bb
  have B0 := B0.trans (bb.mono B0.size)
  clear bb
  go_wp2
  go_ret
  exact ⟨rfl, B0⟩
set_option maxRecDepth 20000 in
set_option maxHeartbeats 8000000 in
theorem ratioField_long_r {ba : Bool} {Aa : Option Addr} {na ca : Nat} {Ba : Option Addr} {ma da : Nat} {bp : Bool} {Ap : Option Addr} {np cp : Nat} {Bp : Option Addr} {mp dp : Nat} {br : Bool} {Ar : Option Addr} {nr cr : Nat} {Br : Option Addr} {mr dr : Nat} (w : World) (ha : na ≤ 6 ∧ ma ≤ 6) (hp : np ≤ 6 ∧ mp ≤ 6) (hl : 6 < nr ∨ 6 < mr) (ht : Tab w) :
    Calls Tryd.prog 4 #[.agg #[.bool ba, .slice Aa na ca, .slice Ba ma da], .agg #[.bool bp, .slice Ap np cp, .slice Bp mp dp], .agg #[.bool br, .slice Ar nr cr, .slice Br mr dr]] w (BoolEnd true w) := by
  have HT := Lib.hid ht
  clear ht
  have B0 := below_a3 w (.cells #[.bool ba, .slice Aa na ca, .slice Ba ma da] 27) (.cells #[.bool bp, .slice Ap np cp, .slice Bp mp dp] 27) (.cells #[.bool br, .slice Ar nr cr, .slice Br mr dr] 27)
  have ka := (((Bq.new w (w.heap.size) (by simp) (.bool ba) (.slice Aa na ca) (.slice Ba ma da)).below (below_alloc (w.alloc (.cells #[.bool ba, .slice Aa na ca, .slice Ba ma da] 27)) (.cells #[.bool bp, .slice Ap np cp, .slice Bp mp dp] 27))).below (below_alloc ((w.alloc (.cells #[.bool ba, .slice Aa na ca, .slice Ba ma da] 27)).alloc (.cells #[.bool bp, .slice Ap np cp, .slice Bp mp dp] 27)) (.cells #[.bool br, .slice Ar nr cr, .slice Br mr dr] 27)))
  have kp := ((Bq.new (w.alloc (.cells #[.bool ba, .slice Aa na ca, .slice Ba ma da] 27)) (w.heap.size + 1) (by simp) (.bool bp) (.slice Ap np cp) (.slice Bp mp dp)).below (below_alloc ((w.alloc (.cells #[.bool ba, .slice Aa na ca, .slice Ba ma da] 27)).alloc (.cells #[.bool bp, .slice Ap np cp, .slice Bp mp dp] 27)) (.cells #[.bool br, .slice Ar nr cr, .slice Br mr dr] 27)))
  have kr := (Bq.new ((w.alloc (.cells #[.bool ba, .slice Aa na ca, .slice Ba ma da] 27)).alloc (.cells #[.bool bp, .slice Ap np cp, .slice Bp mp dp] 27)) (w.heap.size + 1 + 1) (by simp) (.bool br) (.slice Ar nr cr) (.slice Br mr dr))
  go_enter Tryd.func4, Tryd.ntmps4
  have ka_0 := ka.c0
  have ka_1 := ka.c1
  have ka_2 := ka.c2
  have kp_0 := kp.c0
  have kp_1 := kp.c1
  have kp_2 := kp.c2
  have kr_0 := kr.c0
  have kr_1 := kr.c1
  have kr_2 := kr.c2
  go_wp2_with fail
  refine (light_yes ba Aa na ca Ba ma da _ _ (by omega) (by omega)).mono ?_
  clear ka_0 ka_1 ka_2 kp_0 kp_1 kp_2 kr_0 kr_1 kr_2
  rintro e w1 ⟨rfl, bb⟩
  have ka := ka.below bb
  have kp := kp.below bb
  have kr := kr.below bb
  have B0 := B0.trans (bb.mono B0.size)
  clear bb
  have ka_0 := ka.c0
  have ka_1 := ka.c1
  have ka_2 := ka.c2
  have kp_0 := kp.c0
  have kp_1 := kp.c1
  have kp_2 := kp.c2
  have kr_0 := kr.c0
  have kr_1 := kr.c1
  have kr_2 := kr.c2
  go_wp2_with fail
  refine (light_yes bp Ap np cp Bp mp dp _ _ (by omega) (by omega)).mono ?_
  clear ka_0 ka_1 ka_2 kp_0 kp_1 kp_2 kr_0 kr_1 kr_2
  rintro e w2 ⟨rfl, bb⟩
  have ka := ka.below bb
  have kp := kp.below bb
  have kr := kr.below bb
  have B0 := B0.trans (bb.mono B0.size)
  clear bb
  have ka_0 := ka.c0
  have ka_1 := ka.c1
  have ka_2 := ka.c2
  have kp_0 := kp.c0
  have kp_1 := kp.c1
  have kp_2 := kp.c2
  have kr_0 := kr.c0
  have kr_1 := kr.c1
  have kr_2 := kr.c2
  go_wp2_with fail
  refine (light_not br Ar nr cr Br mr dr _ _ (by omega)).mono ?_
  clear ka_0 ka_1 ka_2 kp_0 kp_1 kp_2 kr_0 kr_1 kr_2
  rintro e w3 ⟨rfl, bb⟩
  have ka := ka.below bb
  have kp := kp.below bb
  have kr := kr.below bb
  have B0 := B0.trans (bb.mono B0.size)
  clear bb
  have ka_0 := ka.c0
  have ka_1 := ka.c1
  have ka_2 := ka.c2
  have kp_0 := kp.c0
  have kp_1 := kp.c1
  have kp_2 := kp.c2
  have kr_0 := kr.c0
  have kr_1 := kr.c1
  have kr_2 := kr.c2
  go_wp2_with fail
  refine (example_walk _ (HT.out.below B0)).mono ?_
  clear ka_0 ka_1 ka_2 kp_0 kp_1 kp_2 kr_0 kr_1 kr_2
  rintro e w4 ⟨rfl, bb⟩
  have ka := ka.below bb
  have kp := kp.below bb
  have kr := kr.below bb
  have B0 := B0.trans (bb.mono B0.size)
  clear bb
  go_wp2
  go_ret
  exact ⟨rfl, B0⟩
theorem rat_01 : ((0 : Int) : Rat) / ((1 : Int) : Rat) = 0 := by push_cast; grind
theorem rat_11 : ((1 : Int) : Rat) / ((1 : Int) : Rat) = 1 := by push_cast; grind
set_option maxRecDepth 20000 in
set_option maxHeartbeats 8000000 in
theorem ratioField_zero {ba : Bool} {Aa : Option Addr} {na ca : Nat} {Ba : Option Addr} {ma da : Nat} {bp : Bool} {Ap : Option Addr} {np cp : Nat} {Bp : Option Addr} {mp dp : Nat} {br : Bool} {Ar : Option Addr} {nr cr : Nat} {Br : Option Addr} {mr dr : Nat} {xa : Rat} {xp : Rat} {xr : Rat} (w : World) (ha : Qv w (.agg #[.bool ba, .slice Aa na ca, .slice Ba ma da]) xa na ma) (hp : Qv w (.agg #[.bool bp, .slice Ap np cp, .slice Bp mp dp]) xp np mp) (hr : Qv w (.agg #[.bool br, .slice Ar nr cr, .slice Br mr dr]) xr nr mr) (h1 : na ≤ 6 ∧ ma ≤ 6) (h2 : np ≤ 6 ∧ mp ≤ 6) (h3 : nr ≤ 6 ∧ mr ≤ 6) (h0 : xp = 0) (ht : Tab w) :
    Calls Tryd.prog 4 #[.agg #[.bool ba, .slice Aa na ca, .slice Ba ma da], .agg #[.bool bp, .slice Ap np cp, .slice Bp mp dp], .agg #[.bool br, .slice Ar nr cr, .slice Br mr dr]] w (BoolEnd true w) := by
  have HT := Lib.hid ht
  clear ht
  have H0 := Lib.hid h0
  clear h0
  have B0 := below_a3 w (.cells #[.bool ba, .slice Aa na ca, .slice Ba ma da] 27) (.cells #[.bool bp, .slice Ap np cp, .slice Bp mp dp] 27) (.cells #[.bool br, .slice Ar nr cr, .slice Br mr dr] 27)
  have ha := ha.below B0
  have hp := hp.below B0
  have hr := hr.below B0
  have ka := (((Bq.new w (w.heap.size) (by simp) (.bool ba) (.slice Aa na ca) (.slice Ba ma da)).below (below_alloc (w.alloc (.cells #[.bool ba, .slice Aa na ca, .slice Ba ma da] 27)) (.cells #[.bool bp, .slice Ap np cp, .slice Bp mp dp] 27))).below (below_alloc ((w.alloc (.cells #[.bool ba, .slice Aa na ca, .slice Ba ma da] 27)).alloc (.cells #[.bool bp, .slice Ap np cp, .slice Bp mp dp] 27)) (.cells #[.bool br, .slice Ar nr cr, .slice Br mr dr] 27)))
  have kp := ((Bq.new (w.alloc (.cells #[.bool ba, .slice Aa na ca, .slice Ba ma da] 27)) (w.heap.size + 1) (by simp) (.bool bp) (.slice Ap np cp) (.slice Bp mp dp)).below (below_alloc ((w.alloc (.cells #[.bool ba, .slice Aa na ca, .slice Ba ma da] 27)).alloc (.cells #[.bool bp, .slice Ap np cp, .slice Bp mp dp] 27)) (.cells #[.bool br, .slice Ar nr cr, .slice Br mr dr] 27)))
  have kr := (Bq.new ((w.alloc (.cells #[.bool ba, .slice Aa na ca, .slice Ba ma da] 27)).alloc (.cells #[.bool bp, .slice Ap np cp, .slice Bp mp dp] 27)) (w.heap.size + 1 + 1) (by simp) (.bool br) (.slice Ar nr cr) (.slice Br mr dr))
  go_enter Tryd.func4, Tryd.ntmps4
  have ka_0 := ka.c0
  have ka_1 := ka.c1
  have ka_2 := ka.c2
  have kp_0 := kp.c0
  have kp_1 := kp.c1
  have kp_2 := kp.c2
  have kr_0 := kr.c0
  have kr_1 := kr.c1
  have kr_2 := kr.c2
  go_wp2_with fail
  refine (light_yes ba Aa na ca Ba ma da _ _ (by omega) (by omega)).mono ?_
  clear ka_0 ka_1 ka_2 kp_0 kp_1 kp_2 kr_0 kr_1 kr_2
  rintro e w1 ⟨rfl, bb⟩
  have ha := ha.below bb
  have hp := hp.below bb
  have hr := hr.below bb
  have ka := ka.below bb
  have kp := kp.below bb
  have kr := kr.below bb
  have B0 := B0.trans (bb.mono B0.size)
  clear bb
  have ka_0 := ka.c0
  have ka_1 := ka.c1
  have ka_2 := ka.c2
  have kp_0 := kp.c0
  have kp_1 := kp.c1
  have kp_2 := kp.c2
  have kr_0 := kr.c0
  have kr_1 := kr.c1
  have kr_2 := kr.c2
  go_wp2_with fail
  refine (light_yes bp Ap np cp Bp mp dp _ _ (by omega) (by omega)).mono ?_
  clear ka_0 ka_1 ka_2 kp_0 kp_1 kp_2 kr_0 kr_1 kr_2
  rintro e w2 ⟨rfl, bb⟩
  have ha := ha.below bb
  have hp := hp.below bb
  have hr := hr.below bb
  have ka := ka.below bb
  have kp := kp.below bb
  have kr := kr.below bb
  have B0 := B0.trans (bb.mono B0.size)
  clear bb
  have ka_0 := ka.c0
  have ka_1 := ka.c1
  have ka_2 := ka.c2
  have kp_0 := kp.c0
  have kp_1 := kp.c1
  have kp_2 := kp.c2
  have kr_0 := kr.c0
  have kr_1 := kr.c1
  have kr_2 := kr.c2
  go_wp2_with fail
  refine (light_yes br Ar nr cr Br mr dr _ _ (by omega) (by omega)).mono ?_
  clear ka_0 ka_1 ka_2 kp_0 kp_1 kp_2 kr_0 kr_1 kr_2
  rintro e w3 ⟨rfl, bb⟩
  have ha := ha.below bb
  have hp := hp.below bb
  have hr := hr.below bb
  have ka := ka.below bb
  have kp := kp.below bb
  have kr := kr.below bb
  have B0 := B0.trans (bb.mono B0.size)
  clear bb
  have ka_0 := ka.c0
  have ka_1 := ka.c1
  have ka_2 := ka.c2
  have kp_0 := kp.c0
  have kp_1 := kp.c1
  have kp_2 := kp.c2
  have kr_0 := kr.c0
  have kr_1 := kr.c1
  have kr_2 := kr.c2
  go_wp2_with fail
  refine (qof_p 0 1 (by decide) (by decide) (by decide) (by decide) _ (by decide) _ rat_01).mono ?_
  clear ka_0 ka_1 ka_2 kp_0 kp_1 kp_2 kr_0 kr_1 kr_2
  rintro e w4 ⟨bh, Ah, nh, ch, Bh, mh, dh, rfl, zh, bb⟩
  have ha := ha.below bb
  have hp := hp.below bb
  have hr := hr.below bb
  have ka := ka.below bb
  have kp := kp.below bb
  have kr := kr.below bb
  have B0 := B0.trans (bb.mono B0.size)
  clear bb
  have ha := ha.below (below_alloc w4 (.cells #[.bool bh, .slice Ah nh ch, .slice Bh mh dh] 27))
  have hp := hp.below (below_alloc w4 (.cells #[.bool bh, .slice Ah nh ch, .slice Bh mh dh] 27))
  have hr := hr.below (below_alloc w4 (.cells #[.bool bh, .slice Ah nh ch, .slice Bh mh dh] 27))
  have ka := ka.below (below_alloc w4 (.cells #[.bool bh, .slice Ah nh ch, .slice Bh mh dh] 27))
  have kp := kp.below (below_alloc w4 (.cells #[.bool bh, .slice Ah nh ch, .slice Bh mh dh] 27))
  have kr := kr.below (below_alloc w4 (.cells #[.bool bh, .slice Ah nh ch, .slice Bh mh dh] 27))
  have zh := zh.below (below_alloc w4 (.cells #[.bool bh, .slice Ah nh ch, .slice Bh mh dh] 27))
  have kh := Bq.new w4 (w4.heap.size) (by simp) (.bool bh) (.slice Ah nh ch) (.slice Bh mh dh)
  have B0 := B0.trans ((below_alloc w4 (.cells #[.bool bh, .slice Ah nh ch, .slice Bh mh dh] 27)).mono B0.size)
  have ka_0 := ka.c0
  have ka_1 := ka.c1
  have ka_2 := ka.c2
  have kp_0 := kp.c0
  have kp_1 := kp.c1
  have kp_2 := kp.c2
  have kr_0 := kr.c0
  have kr_1 := kr.c1
  have kr_2 := kr.c2
  have kh_0 := kh.c0
  have kh_1 := kh.c1
  have kh_2 := kh.c2
  go_wp2_with fail
  refine (qof_p 1 1 (by decide) (by decide) (by decide) (by decide) _ (by decide) _ rat_11).mono ?_
  clear ka_0 ka_1 ka_2 kp_0 kp_1 kp_2 kr_0 kr_1 kr_2 kh_0 kh_1 kh_2
  rintro e w5 ⟨b1, A1, n1, c1, B1, m1, d1, rfl, z1, bb⟩
  have ha := ha.below bb
  have hp := hp.below bb
  have hr := hr.below bb
  have ka := ka.below bb
  have kp := kp.below bb
  have kr := kr.below bb
  have zh := zh.below bb
  have kh := kh.below bb
  have B0 := B0.trans (bb.mono B0.size)
  clear bb
  have ha := ha.below (below_alloc w5 (.cells #[.bool b1, .slice A1 n1 c1, .slice B1 m1 d1] 27))
  have hp := hp.below (below_alloc w5 (.cells #[.bool b1, .slice A1 n1 c1, .slice B1 m1 d1] 27))
  have hr := hr.below (below_alloc w5 (.cells #[.bool b1, .slice A1 n1 c1, .slice B1 m1 d1] 27))
  have ka := ka.below (below_alloc w5 (.cells #[.bool b1, .slice A1 n1 c1, .slice B1 m1 d1] 27))
  have kp := kp.below (below_alloc w5 (.cells #[.bool b1, .slice A1 n1 c1, .slice B1 m1 d1] 27))
  have kr := kr.below (below_alloc w5 (.cells #[.bool b1, .slice A1 n1 c1, .slice B1 m1 d1] 27))
  have zh := zh.below (below_alloc w5 (.cells #[.bool b1, .slice A1 n1 c1, .slice B1 m1 d1] 27))
  have kh := kh.below (below_alloc w5 (.cells #[.bool b1, .slice A1 n1 c1, .slice B1 m1 d1] 27))
  have z1 := z1.below (below_alloc w5 (.cells #[.bool b1, .slice A1 n1 c1, .slice B1 m1 d1] 27))
  have k1 := Bq.new w5 (w5.heap.size) (by simp) (.bool b1) (.slice A1 n1 c1) (.slice B1 m1 d1)
  have B0 := B0.trans ((below_alloc w5 (.cells #[.bool b1, .slice A1 n1 c1, .slice B1 m1 d1] 27)).mono B0.size)
  have ka_0 := ka.c0
  have ka_1 := ka.c1
  have ka_2 := ka.c2
  have kp_0 := kp.c0
  have kp_1 := kp.c1
  have kp_2 := kp.c2
  have kr_0 := kr.c0
  have kr_1 := kr.c1
  have kr_2 := kr.c2
  have kh_0 := kh.c0
  have kh_1 := kh.c1
  have kh_2 := kh.c2
  have k1_0 := k1.c0
  have k1_1 := k1.c1
  have k1_2 := k1.c2
  go_wp2_with fail
  refine (qnorm_q ha (by omega) (by omega)).mono ?_
  clear ka_0 ka_1 ka_2 kp_0 kp_1 kp_2 kr_0 kr_1 kr_2 kh_0 kh_1 kh_2 k1_0 k1_1 k1_2
  rintro e w6 ⟨bg, Ag, ng, cg, Bg, mg, dg, rfl, zg, bb⟩
  have ha := ha.below bb
  have hp := hp.below bb
  have hr := hr.below bb
  have ka := ka.below bb
  have kp := kp.below bb
  have kr := kr.below bb
  have zh := zh.below bb
  have kh := kh.below bb
  have z1 := z1.below bb
  have k1 := k1.below bb
  have B0 := B0.trans (bb.mono B0.size)
  clear bb
  have ha := ha.below (below_alloc w6 (.cells #[.bool bg, .slice Ag ng cg, .slice Bg mg dg] 27))
  have hp := hp.below (below_alloc w6 (.cells #[.bool bg, .slice Ag ng cg, .slice Bg mg dg] 27))
  have hr := hr.below (below_alloc w6 (.cells #[.bool bg, .slice Ag ng cg, .slice Bg mg dg] 27))
  have ka := ka.below (below_alloc w6 (.cells #[.bool bg, .slice Ag ng cg, .slice Bg mg dg] 27))
  have kp := kp.below (below_alloc w6 (.cells #[.bool bg, .slice Ag ng cg, .slice Bg mg dg] 27))
  have kr := kr.below (below_alloc w6 (.cells #[.bool bg, .slice Ag ng cg, .slice Bg mg dg] 27))
  have zh := zh.below (below_alloc w6 (.cells #[.bool bg, .slice Ag ng cg, .slice Bg mg dg] 27))
  have kh := kh.below (below_alloc w6 (.cells #[.bool bg, .slice Ag ng cg, .slice Bg mg dg] 27))
  have z1 := z1.below (below_alloc w6 (.cells #[.bool bg, .slice Ag ng cg, .slice Bg mg dg] 27))
  have k1 := k1.below (below_alloc w6 (.cells #[.bool bg, .slice Ag ng cg, .slice Bg mg dg] 27))
  have zg := zg.below (below_alloc w6 (.cells #[.bool bg, .slice Ag ng cg, .slice Bg mg dg] 27))
  have kg := Bq.new w6 (w6.heap.size) (by simp) (.bool bg) (.slice Ag ng cg) (.slice Bg mg dg)
  have B0 := B0.trans ((below_alloc w6 (.cells #[.bool bg, .slice Ag ng cg, .slice Bg mg dg] 27)).mono B0.size)
  go_wp2_with fail
  have ha := ha.drew
  have hp := hp.drew
  have hr := hr.drew
  have ka := ka.drew
  have kp := kp.drew
  have kr := kr.drew
  have zh := zh.drew
  have kh := kh.drew
  have z1 := z1.drew
  have k1 := k1.drew
  have zg := zg.drew
  have kg := kg.drew
  have B0 := b_drew B0
  go_region_held3 (fun w' => w'.cell? ⟨w.heap.size, 0, none⟩ = some (.bool ba) ∧ w'.cell? ⟨w.heap.size, 1, none⟩ = some (.slice Aa na ca) ∧ w'.cell? ⟨w.heap.size, 2, none⟩ = some (.slice Ba ma da) ∧ w'.cell? ⟨w.heap.size + 1, 0, none⟩ = some (.bool bp) ∧ w'.cell? ⟨w.heap.size + 1, 1, none⟩ = some (.slice Ap np cp) ∧ w'.cell? ⟨w.heap.size + 1, 2, none⟩ = some (.slice Bp mp dp) ∧ w'.cell? ⟨w.heap.size + 1 + 1, 0, none⟩ = some (.bool br) ∧ w'.cell? ⟨w.heap.size + 1 + 1, 1, none⟩ = some (.slice Ar nr cr) ∧ w'.cell? ⟨w.heap.size + 1 + 1, 2, none⟩ = some (.slice Br mr dr) ∧ w'.cell? ⟨w4.heap.size, 0, none⟩ = some (.bool bh) ∧ w'.cell? ⟨w4.heap.size, 1, none⟩ = some (.slice Ah nh ch) ∧ w'.cell? ⟨w4.heap.size, 2, none⟩ = some (.slice Bh mh dh) ∧ w'.cell? ⟨w5.heap.size, 0, none⟩ = some (.bool b1) ∧ w'.cell? ⟨w5.heap.size, 1, none⟩ = some (.slice A1 n1 c1) ∧ w'.cell? ⟨w5.heap.size, 2, none⟩ = some (.slice B1 m1 d1) ∧ w'.cell? ⟨w6.heap.size, 0, none⟩ = some (.bool bg) ∧ w'.cell? ⟨w6.heap.size, 1, none⟩ = some (.slice Ag ng cg) ∧ w'.cell? ⟨w6.heap.size, 2, none⟩ = some (.slice Bg mg dg)) (first | with_reducible exact ⟨ka.c0, ka.c1, ka.c2, kp.c0, kp.c1, kp.c2, kr.c0, kr.c1, kr.c2, kh.c0, kh.c1, kh.c2, k1.c0, k1.c1, k1.c2, kg.c0, kg.c1, kg.c2⟩)
    (first
      | (go_at_call 16; (with_reducible refine (qadd_q ha hp ?_ ?_ ?_ ?_).mono ?_); omega; omega; omega; omega; rintro e w11 ⟨b21, A21, n21, c21, B21, m21, d21, rfl, z21, bb⟩; have ha := ha.below bb; have hp := hp.below bb; have hr := hr.below bb; have ka := ka.below bb; have kp := kp.below bb; have kr := kr.below bb; have zh := zh.below bb; have kh := kh.below bb; have z1 := z1.below bb; have k1 := k1.below bb; have zg := zg.below bb; have kg := kg.below bb; have B0 := B0.trans (bb.mono B0.size); clear bb)
      | (go_at_call 16; (with_reducible refine (qadd_q hp ha ?_ ?_ ?_ ?_).mono ?_); omega; omega; omega; omega; rintro e w12 ⟨b22, A22, n22, c22, B22, m22, d22, rfl, z22, bb⟩; have ha := ha.below bb; have hp := hp.below bb; have hr := hr.below bb; have ka := ka.below bb; have kp := kp.below bb; have kr := kr.below bb; have zh := zh.below bb; have kh := kh.below bb; have z1 := z1.below bb; have k1 := k1.below bb; have zg := zg.below bb; have kg := kg.below bb; have z21 := z21.below bb; have B0 := B0.trans (bb.mono B0.size); clear bb)
      | (go_at_call 12; (with_reducible refine (rsame_q z21 z22 (Rat.add_comm _ _)).mono ?_); rintro e w13 ⟨rfl, bb⟩; have ha := ha.below bb; have hp := hp.below bb; have hr := hr.below bb; have ka := ka.below bb; have kp := kp.below bb; have kr := kr.below bb; have zh := zh.below bb; have kh := kh.below bb; have z1 := z1.below bb; have k1 := k1.below bb; have zg := zg.below bb; have kg := kg.below bb; have z21 := z21.below bb; have z22 := z22.below bb; have B0 := B0.trans (bb.mono B0.size); clear bb)
      | (go_at_call 16; (with_reducible refine (qadd_q z21.qv hr ?_ ?_ ?_ ?_).mono ?_); omega; omega; omega; omega; rintro e w14 ⟨b23, A23, n23, c23, B23, m23, d23, rfl, z23, bb⟩; have ha := ha.below bb; have hp := hp.below bb; have hr := hr.below bb; have ka := ka.below bb; have kp := kp.below bb; have kr := kr.below bb; have zh := zh.below bb; have kh := kh.below bb; have z1 := z1.below bb; have k1 := k1.below bb; have zg := zg.below bb; have kg := kg.below bb; have z21 := z21.below bb; have B0 := B0.trans (bb.mono B0.size); clear bb)
      | (go_at_call 16; (with_reducible refine (qadd_q hp hr ?_ ?_ ?_ ?_).mono ?_); omega; omega; omega; omega; rintro e w15 ⟨b24, A24, n24, c24, B24, m24, d24, rfl, z24, bb⟩; have ha := ha.below bb; have hp := hp.below bb; have hr := hr.below bb; have ka := ka.below bb; have kp := kp.below bb; have kr := kr.below bb; have zh := zh.below bb; have kh := kh.below bb; have z1 := z1.below bb; have k1 := k1.below bb; have zg := zg.below bb; have kg := kg.below bb; have z23 := z23.below bb; have B0 := B0.trans (bb.mono B0.size); clear bb)
      | (go_at_call 16; (with_reducible refine (qadd_q ha z24.qv ?_ ?_ ?_ ?_).mono ?_); omega; omega; omega; omega; rintro e w16 ⟨b25, A25, n25, c25, B25, m25, d25, rfl, z25, bb⟩; have ha := ha.below bb; have hp := hp.below bb; have hr := hr.below bb; have ka := ka.below bb; have kp := kp.below bb; have kr := kr.below bb; have zh := zh.below bb; have kh := kh.below bb; have z1 := z1.below bb; have k1 := k1.below bb; have zg := zg.below bb; have kg := kg.below bb; have z23 := z23.below bb; have z24 := z24.below bb; have B0 := B0.trans (bb.mono B0.size); clear bb)
      | (go_at_call 12; (with_reducible refine (rsame_q z23 z25 (Rat.add_assoc _ _ _)).mono ?_); rintro e w17 ⟨rfl, bb⟩; have ha := ha.below bb; have hp := hp.below bb; have hr := hr.below bb; have ka := ka.below bb; have kp := kp.below bb; have kr := kr.below bb; have zh := zh.below bb; have kh := kh.below bb; have z1 := z1.below bb; have k1 := k1.below bb; have zg := zg.below bb; have kg := kg.below bb; have z23 := z23.below bb; have z25 := z25.below bb; have B0 := B0.trans (bb.mono B0.size); clear bb)
      | (go_at_call 17; (with_reducible refine (qmul_q ha hp ?_ ?_ ?_ ?_).mono ?_); omega; omega; omega; omega; rintro e w18 ⟨b31, A31, n31, c31, B31, m31, d31, rfl, z31, bb⟩; have ha := ha.below bb; have hp := hp.below bb; have hr := hr.below bb; have ka := ka.below bb; have kp := kp.below bb; have kr := kr.below bb; have zh := zh.below bb; have kh := kh.below bb; have z1 := z1.below bb; have k1 := k1.below bb; have zg := zg.below bb; have kg := kg.below bb; have B0 := B0.trans (bb.mono B0.size); clear bb)
      | (go_at_call 17; (with_reducible refine (qmul_q hp ha ?_ ?_ ?_ ?_).mono ?_); omega; omega; omega; omega; rintro e w19 ⟨b32, A32, n32, c32, B32, m32, d32, rfl, z32, bb⟩; have ha := ha.below bb; have hp := hp.below bb; have hr := hr.below bb; have ka := ka.below bb; have kp := kp.below bb; have kr := kr.below bb; have zh := zh.below bb; have kh := kh.below bb; have z1 := z1.below bb; have k1 := k1.below bb; have zg := zg.below bb; have kg := kg.below bb; have z31 := z31.below bb; have B0 := B0.trans (bb.mono B0.size); clear bb)
      | (go_at_call 12; (with_reducible refine (rsame_q z31 z32 (Rat.mul_comm _ _)).mono ?_); rintro e w20 ⟨rfl, bb⟩; have ha := ha.below bb; have hp := hp.below bb; have hr := hr.below bb; have ka := ka.below bb; have kp := kp.below bb; have kr := kr.below bb; have zh := zh.below bb; have kh := kh.below bb; have z1 := z1.below bb; have k1 := k1.below bb; have zg := zg.below bb; have kg := kg.below bb; have z31 := z31.below bb; have z32 := z32.below bb; have B0 := B0.trans (bb.mono B0.size); clear bb)
      | (go_at_call 17; (with_reducible refine (qmul_q z31.qv hr ?_ ?_ ?_ ?_).mono ?_); omega; omega; omega; omega; rintro e w21 ⟨b33, A33, n33, c33, B33, m33, d33, rfl, z33, bb⟩; have ha := ha.below bb; have hp := hp.below bb; have hr := hr.below bb; have ka := ka.below bb; have kp := kp.below bb; have kr := kr.below bb; have zh := zh.below bb; have kh := kh.below bb; have z1 := z1.below bb; have k1 := k1.below bb; have zg := zg.below bb; have kg := kg.below bb; have z31 := z31.below bb; have B0 := B0.trans (bb.mono B0.size); clear bb)
      | (go_at_call 17; (with_reducible refine (qmul_q hp hr ?_ ?_ ?_ ?_).mono ?_); omega; omega; omega; omega; rintro e w22 ⟨b34, A34, n34, c34, B34, m34, d34, rfl, z34, bb⟩; have ha := ha.below bb; have hp := hp.below bb; have hr := hr.below bb; have ka := ka.below bb; have kp := kp.below bb; have kr := kr.below bb; have zh := zh.below bb; have kh := kh.below bb; have z1 := z1.below bb; have k1 := k1.below bb; have zg := zg.below bb; have kg := kg.below bb; have z33 := z33.below bb; have B0 := B0.trans (bb.mono B0.size); clear bb)
      | (go_at_call 17; (with_reducible refine (qmul_q ha z34.qv ?_ ?_ ?_ ?_).mono ?_); omega; omega; omega; omega; rintro e w23 ⟨b35, A35, n35, c35, B35, m35, d35, rfl, z35, bb⟩; have ha := ha.below bb; have hp := hp.below bb; have hr := hr.below bb; have ka := ka.below bb; have kp := kp.below bb; have kr := kr.below bb; have zh := zh.below bb; have kh := kh.below bb; have z1 := z1.below bb; have k1 := k1.below bb; have zg := zg.below bb; have kg := kg.below bb; have z33 := z33.below bb; have z34 := z34.below bb; have B0 := B0.trans (bb.mono B0.size); clear bb)
      | (go_at_call 12; (with_reducible refine (rsame_q z33 z35 (Rat.mul_assoc _ _ _)).mono ?_); rintro e w24 ⟨rfl, bb⟩; have ha := ha.below bb; have hp := hp.below bb; have hr := hr.below bb; have ka := ka.below bb; have kp := kp.below bb; have kr := kr.below bb; have zh := zh.below bb; have kh := kh.below bb; have z1 := z1.below bb; have k1 := k1.below bb; have zg := zg.below bb; have kg := kg.below bb; have z33 := z33.below bb; have z35 := z35.below bb; have B0 := B0.trans (bb.mono B0.size); clear bb))
  go_wp2_with fail
  have ha := ha.drew
  have hp := hp.drew
  have hr := hr.drew
  have ka := ka.drew
  have kp := kp.drew
  have kr := kr.drew
  have zh := zh.drew
  have kh := kh.drew
  have z1 := z1.drew
  have k1 := k1.drew
  have zg := zg.drew
  have kg := kg.drew
  have B0 := b_drew B0
  go_region_held3 (fun w' => w'.cell? ⟨w.heap.size, 0, none⟩ = some (.bool ba) ∧ w'.cell? ⟨w.heap.size, 1, none⟩ = some (.slice Aa na ca) ∧ w'.cell? ⟨w.heap.size, 2, none⟩ = some (.slice Ba ma da) ∧ w'.cell? ⟨w.heap.size + 1, 0, none⟩ = some (.bool bp) ∧ w'.cell? ⟨w.heap.size + 1, 1, none⟩ = some (.slice Ap np cp) ∧ w'.cell? ⟨w.heap.size + 1, 2, none⟩ = some (.slice Bp mp dp) ∧ w'.cell? ⟨w.heap.size + 1 + 1, 0, none⟩ = some (.bool br) ∧ w'.cell? ⟨w.heap.size + 1 + 1, 1, none⟩ = some (.slice Ar nr cr) ∧ w'.cell? ⟨w.heap.size + 1 + 1, 2, none⟩ = some (.slice Br mr dr) ∧ w'.cell? ⟨w4.heap.size, 0, none⟩ = some (.bool bh) ∧ w'.cell? ⟨w4.heap.size, 1, none⟩ = some (.slice Ah nh ch) ∧ w'.cell? ⟨w4.heap.size, 2, none⟩ = some (.slice Bh mh dh) ∧ w'.cell? ⟨w5.heap.size, 0, none⟩ = some (.bool b1) ∧ w'.cell? ⟨w5.heap.size, 1, none⟩ = some (.slice A1 n1 c1) ∧ w'.cell? ⟨w5.heap.size, 2, none⟩ = some (.slice B1 m1 d1) ∧ w'.cell? ⟨w6.heap.size, 0, none⟩ = some (.bool bg) ∧ w'.cell? ⟨w6.heap.size, 1, none⟩ = some (.slice Ag ng cg) ∧ w'.cell? ⟨w6.heap.size, 2, none⟩ = some (.slice Bg mg dg)) (first | with_reducible exact ⟨ka.c0, ka.c1, ka.c2, kp.c0, kp.c1, kp.c2, kr.c0, kr.c1, kr.c2, kh.c0, kh.c1, kh.c2, k1.c0, k1.c1, k1.c2, kg.c0, kg.c1, kg.c2⟩)
    (first
      | (go_at_call 16; (with_reducible refine (qadd_q hp hr ?_ ?_ ?_ ?_).mono ?_); omega; omega; omega; omega; rintro e w25 ⟨b41, A41, n41, c41, B41, m41, d41, rfl, z41, bb⟩; have ha := ha.below bb; have hp := hp.below bb; have hr := hr.below bb; have ka := ka.below bb; have kp := kp.below bb; have kr := kr.below bb; have zh := zh.below bb; have kh := kh.below bb; have z1 := z1.below bb; have k1 := k1.below bb; have zg := zg.below bb; have kg := kg.below bb; have B0 := B0.trans (bb.mono B0.size); clear bb)
      | (go_at_call 17; (with_reducible refine (qmul_q ha z41.qv ?_ ?_ ?_ ?_).mono ?_); omega; omega; omega; omega; rintro e w26 ⟨b42, A42, n42, c42, B42, m42, d42, rfl, z42, bb⟩; have ha := ha.below bb; have hp := hp.below bb; have hr := hr.below bb; have ka := ka.below bb; have kp := kp.below bb; have kr := kr.below bb; have zh := zh.below bb; have kh := kh.below bb; have z1 := z1.below bb; have k1 := k1.below bb; have zg := zg.below bb; have kg := kg.below bb; have z41 := z41.below bb; have B0 := B0.trans (bb.mono B0.size); clear bb)
      | (go_at_call 17; (with_reducible refine (qmul_q ha hp ?_ ?_ ?_ ?_).mono ?_); omega; omega; omega; omega; rintro e w27 ⟨b43, A43, n43, c43, B43, m43, d43, rfl, z43, bb⟩; have ha := ha.below bb; have hp := hp.below bb; have hr := hr.below bb; have ka := ka.below bb; have kp := kp.below bb; have kr := kr.below bb; have zh := zh.below bb; have kh := kh.below bb; have z1 := z1.below bb; have k1 := k1.below bb; have zg := zg.below bb; have kg := kg.below bb; have z42 := z42.below bb; have B0 := B0.trans (bb.mono B0.size); clear bb)
      | (go_at_call 17; (with_reducible refine (qmul_q ha hr ?_ ?_ ?_ ?_).mono ?_); omega; omega; omega; omega; rintro e w28 ⟨b44, A44, n44, c44, B44, m44, d44, rfl, z44, bb⟩; have ha := ha.below bb; have hp := hp.below bb; have hr := hr.below bb; have ka := ka.below bb; have kp := kp.below bb; have kr := kr.below bb; have zh := zh.below bb; have kh := kh.below bb; have z1 := z1.below bb; have k1 := k1.below bb; have zg := zg.below bb; have kg := kg.below bb; have z42 := z42.below bb; have z43 := z43.below bb; have B0 := B0.trans (bb.mono B0.size); clear bb)
      | (go_at_call 16; (with_reducible refine (qadd_q z43.qv z44.qv ?_ ?_ ?_ ?_).mono ?_); omega; omega; omega; omega; rintro e w29 ⟨b45, A45, n45, c45, B45, m45, d45, rfl, z45, bb⟩; have ha := ha.below bb; have hp := hp.below bb; have hr := hr.below bb; have ka := ka.below bb; have kp := kp.below bb; have kr := kr.below bb; have zh := zh.below bb; have kh := kh.below bb; have z1 := z1.below bb; have k1 := k1.below bb; have zg := zg.below bb; have kg := kg.below bb; have z42 := z42.below bb; have z43 := z43.below bb; have z44 := z44.below bb; have B0 := B0.trans (bb.mono B0.size); clear bb)
      | (go_at_call 12; (with_reducible refine (rsame_q z42 z45 (Rat.mul_add _ _ _)).mono ?_); rintro e w30 ⟨rfl, bb⟩; have ha := ha.below bb; have hp := hp.below bb; have hr := hr.below bb; have ka := ka.below bb; have kp := kp.below bb; have kr := kr.below bb; have zh := zh.below bb; have kh := kh.below bb; have z1 := z1.below bb; have k1 := k1.below bb; have zg := zg.below bb; have kg := kg.below bb; have z42 := z42.below bb; have z45 := z45.below bb; have B0 := B0.trans (bb.mono B0.size); clear bb)
      | (go_at_call 16; (with_reducible refine (qadd_q ha zh.qv ?_ ?_ ?_ ?_).mono ?_); omega; omega; omega; omega; rintro e w31 ⟨b46, A46, n46, c46, B46, m46, d46, rfl, z46, bb⟩; have ha := ha.below bb; have hp := hp.below bb; have hr := hr.below bb; have ka := ka.below bb; have kp := kp.below bb; have kr := kr.below bb; have zh := zh.below bb; have kh := kh.below bb; have z1 := z1.below bb; have k1 := k1.below bb; have zg := zg.below bb; have kg := kg.below bb; have B0 := B0.trans (bb.mono B0.size); clear bb)
      | (go_at_call 12; (with_reducible refine (rsame_q z46 zg (Rat.add_zero _)).mono ?_); rintro e w32 ⟨rfl, bb⟩; have ha := ha.below bb; have hp := hp.below bb; have hr := hr.below bb; have ka := ka.below bb; have kp := kp.below bb; have kr := kr.below bb; have zh := zh.below bb; have kh := kh.below bb; have z1 := z1.below bb; have k1 := k1.below bb; have zg := zg.below bb; have kg := kg.below bb; have z46 := z46.below bb; have B0 := B0.trans (bb.mono B0.size); clear bb)
      | (go_at_call 17; (with_reducible refine (qmul_q ha z1.qv ?_ ?_ ?_ ?_).mono ?_); omega; omega; omega; omega; rintro e w33 ⟨b47, A47, n47, c47, B47, m47, d47, rfl, z47, bb⟩; have ha := ha.below bb; have hp := hp.below bb; have hr := hr.below bb; have ka := ka.below bb; have kp := kp.below bb; have kr := kr.below bb; have zh := zh.below bb; have kh := kh.below bb; have z1 := z1.below bb; have k1 := k1.below bb; have zg := zg.below bb; have kg := kg.below bb; have B0 := B0.trans (bb.mono B0.size); clear bb)
      | (go_at_call 12; (with_reducible refine (rsame_q z47 zg (Rat.mul_one _)).mono ?_); rintro e w34 ⟨rfl, bb⟩; have ha := ha.below bb; have hp := hp.below bb; have hr := hr.below bb; have ka := ka.below bb; have kp := kp.below bb; have kr := kr.below bb; have zh := zh.below bb; have kh := kh.below bb; have z1 := z1.below bb; have k1 := k1.below bb; have zg := zg.below bb; have kg := kg.below bb; have z47 := z47.below bb; have B0 := B0.trans (bb.mono B0.size); clear bb)
      | (go_at_call 23; (with_reducible refine (qneg_q ha ?_ ?_).mono ?_); omega; omega; rintro e w35 ⟨b48, A48, n48, c48, B48, m48, d48, rfl, z48, bb⟩; have ha := ha.below bb; have hp := hp.below bb; have hr := hr.below bb; have ka := ka.below bb; have kp := kp.below bb; have kr := kr.below bb; have zh := zh.below bb; have kh := kh.below bb; have z1 := z1.below bb; have k1 := k1.below bb; have zg := zg.below bb; have kg := kg.below bb; have B0 := B0.trans (bb.mono B0.size); clear bb)
      | (go_at_call 16; (with_reducible refine (qadd_q ha z48.qv ?_ ?_ ?_ ?_).mono ?_); omega; omega; omega; omega; rintro e w36 ⟨b49, A49, n49, c49, B49, m49, d49, rfl, z49, bb⟩; have ha := ha.below bb; have hp := hp.below bb; have hr := hr.below bb; have ka := ka.below bb; have kp := kp.below bb; have kr := kr.below bb; have zh := zh.below bb; have kh := kh.below bb; have z1 := z1.below bb; have k1 := k1.below bb; have zg := zg.below bb; have kg := kg.below bb; have z48 := z48.below bb; have B0 := B0.trans (bb.mono B0.size); clear bb)
      | (go_at_call 12; (with_reducible refine (rsame_q z49 zh (by grind)).mono ?_); rintro e w37 ⟨rfl, bb⟩; have ha := ha.below bb; have hp := hp.below bb; have hr := hr.below bb; have ka := ka.below bb; have kp := kp.below bb; have kr := kr.below bb; have zh := zh.below bb; have kh := kh.below bb; have z1 := z1.below bb; have k1 := k1.below bb; have zg := zg.below bb; have kg := kg.below bb; have z49 := z49.below bb; have B0 := B0.trans (bb.mono B0.size); clear bb)
      | (go_at_call 24; (with_reducible refine (qsub_q ha hp ?_ ?_ ?_ ?_).mono ?_); omega; omega; omega; omega; rintro e w38 ⟨b50, A50, n50, c50, B50, m50, d50, rfl, z50, bb⟩; have ha := ha.below bb; have hp := hp.below bb; have hr := hr.below bb; have ka := ka.below bb; have kp := kp.below bb; have kr := kr.below bb; have zh := zh.below bb; have kh := kh.below bb; have z1 := z1.below bb; have k1 := k1.below bb; have zg := zg.below bb; have kg := kg.below bb; have B0 := B0.trans (bb.mono B0.size); clear bb)
      | (go_at_call 23; (with_reducible refine (qneg_q hp ?_ ?_).mono ?_); omega; omega; rintro e w39 ⟨b51, A51, n51, c51, B51, m51, d51, rfl, z51, bb⟩; have ha := ha.below bb; have hp := hp.below bb; have hr := hr.below bb; have ka := ka.below bb; have kp := kp.below bb; have kr := kr.below bb; have zh := zh.below bb; have kh := kh.below bb; have z1 := z1.below bb; have k1 := k1.below bb; have zg := zg.below bb; have kg := kg.below bb; have z50 := z50.below bb; have B0 := B0.trans (bb.mono B0.size); clear bb)
      | (go_at_call 16; (with_reducible refine (qadd_q ha z51.qv ?_ ?_ ?_ ?_).mono ?_); omega; omega; omega; omega; rintro e w40 ⟨b52, A52, n52, c52, B52, m52, d52, rfl, z52, bb⟩; have ha := ha.below bb; have hp := hp.below bb; have hr := hr.below bb; have ka := ka.below bb; have kp := kp.below bb; have kr := kr.below bb; have zh := zh.below bb; have kh := kh.below bb; have z1 := z1.below bb; have k1 := k1.below bb; have zg := zg.below bb; have kg := kg.below bb; have z50 := z50.below bb; have z51 := z51.below bb; have B0 := B0.trans (bb.mono B0.size); clear bb)
      | (go_at_call 12; (with_reducible refine (rsame_q z50 z52 (by grind)).mono ?_); rintro e w41 ⟨rfl, bb⟩; have ha := ha.below bb; have hp := hp.below bb; have hr := hr.below bb; have ka := ka.below bb; have kp := kp.below bb; have kr := kr.below bb; have zh := zh.below bb; have kh := kh.below bb; have z1 := z1.below bb; have k1 := k1.below bb; have zg := zg.below bb; have kg := kg.below bb; have z50 := z50.below bb; have z52 := z52.below bb; have B0 := B0.trans (bb.mono B0.size); clear bb))
  have ka_0 := ka.c0
  have ka_1 := ka.c1
  have ka_2 := ka.c2
  have kp_0 := kp.c0
  have kp_1 := kp.c1
  have kp_2 := kp.c2
  have kr_0 := kr.c0
  have kr_1 := kr.c1
  have kr_2 := kr.c2
  have kh_0 := kh.c0
  have kh_1 := kh.c1
  have kh_2 := kh.c2
  have k1_0 := k1.c0
  have k1_1 := k1.c1
  have k1_2 := k1.c2
  have kg_0 := kg.c0
  have kg_1 := kg.c1
  have kg_2 := kg.c2
  go_wp2_with fail
  refine (qdiv_q0 ha hp (by omega) (by omega) (by omega) (by omega) H0.out).mono ?_
  clear ka_0 ka_1 ka_2 kp_0 kp_1 kp_2 kr_0 kr_1 kr_2 kh_0 kh_1 kh_2 k1_0 k1_1 k1_2 kg_0 kg_1 kg_2
  rintro e w91 ⟨rfl, bb⟩
  have ha := ha.below bb
  have hp := hp.below bb
  have hr := hr.below bb
  have ka := ka.below bb
  have kp := kp.below bb
  have kr := kr.below bb
  have zh := zh.below bb
  have kh := kh.below bb
  have z1 := z1.below bb
  have k1 := k1.below bb
  have zg := zg.below bb
  have kg := kg.below bb
  have B0 := B0.trans (bb.mono B0.size)
  clear bb
  have ha := ha.below (below_alloc w91 (.cells #[.bool false, .slice none 0 0, .slice none 0 0] 27))
  have hp := hp.below (below_alloc w91 (.cells #[.bool false, .slice none 0 0, .slice none 0 0] 27))
  have hr := hr.below (below_alloc w91 (.cells #[.bool false, .slice none 0 0, .slice none 0 0] 27))
  have ka := ka.below (below_alloc w91 (.cells #[.bool false, .slice none 0 0, .slice none 0 0] 27))
  have kp := kp.below (below_alloc w91 (.cells #[.bool false, .slice none 0 0, .slice none 0 0] 27))
  have kr := kr.below (below_alloc w91 (.cells #[.bool false, .slice none 0 0, .slice none 0 0] 27))
  have zh := zh.below (below_alloc w91 (.cells #[.bool false, .slice none 0 0, .slice none 0 0] 27))
  have kh := kh.below (below_alloc w91 (.cells #[.bool false, .slice none 0 0, .slice none 0 0] 27))
  have z1 := z1.below (below_alloc w91 (.cells #[.bool false, .slice none 0 0, .slice none 0 0] 27))
  have k1 := k1.below (below_alloc w91 (.cells #[.bool false, .slice none 0 0, .slice none 0 0] 27))
  have zg := zg.below (below_alloc w91 (.cells #[.bool false, .slice none 0 0, .slice none 0 0] 27))
  have kg := kg.below (below_alloc w91 (.cells #[.bool false, .slice none 0 0, .slice none 0 0] 27))
  have k9 := Bq.new w91 (w91.heap.size) (by simp) (.bool false) (.slice none 0 0) (.slice none 0 0)
  have B0 := B0.trans ((below_alloc w91 (.cells #[.bool false, .slice none 0 0, .slice none 0 0] 27)).mono B0.size)
  have ka_0 := ka.c0
  have ka_1 := ka.c1
  have ka_2 := ka.c2
  have kp_0 := kp.c0
  have kp_1 := kp.c1
  have kp_2 := kp.c2
  have kr_0 := kr.c0
  have kr_1 := kr.c1
  have kr_2 := kr.c2
  have kh_0 := kh.c0
  have kh_1 := kh.c1
  have kh_2 := kh.c2
  have k1_0 := k1.c0
  have k1_1 := k1.c1
  have k1_2 := k1.c2
  have kg_0 := kg.c0
  have kg_1 := kg.c1
  have kg_2 := kg.c2
  have k9_0 := k9.c0
  have k9_1 := k9.c1
  have k9_2 := k9.c2
  go_wp2_with fail
  refine (qcmp_q hp zh.qv (by omega) (by omega) (by omega) (by omega) 0 ((RatN.cmpQ_zero _ _).mpr H0.out)).mono ?_
  clear ka_0 ka_1 ka_2 kp_0 kp_1 kp_2 kr_0 kr_1 kr_2 kh_0 kh_1 kh_2 k1_0 k1_1 k1_2 kg_0 kg_1 kg_2 k9_0 k9_1 k9_2
  rintro e w92 ⟨rfl, bb⟩
  have ha := ha.below bb
  have hp := hp.below bb
  have hr := hr.below bb
  have ka := ka.below bb
  have kp := kp.below bb
  have kr := kr.below bb
  have zh := zh.below bb
  have kh := kh.below bb
  have z1 := z1.below bb
  have k1 := k1.below bb
  have zg := zg.below bb
  have kg := kg.below bb
  have k9 := k9.below bb
  have B0 := B0.trans (bb.mono B0.size)
  clear bb
  go_wp2_with fail
  have ha := ha.drew
  have hp := hp.drew
  have hr := hr.drew
  have ka := ka.drew
  have kp := kp.drew
  have kr := kr.drew
  have zh := zh.drew
  have kh := kh.drew
  have z1 := z1.drew
  have k1 := k1.drew
  have zg := zg.drew
  have kg := kg.drew
  have k9 := k9.drew
  have B0 := b_drew B0
  have ka_0 := ka.c0
  have ka_1 := ka.c1
  have ka_2 := ka.c2
  have kp_0 := kp.c0
  have kp_1 := kp.c1
  have kp_2 := kp.c2
  have kr_0 := kr.c0
  have kr_1 := kr.c1
  have kr_2 := kr.c2
  have kh_0 := kh.c0
  have kh_1 := kh.c1
  have kh_2 := kh.c2
  have k1_0 := k1.c0
  have k1_1 := k1.c1
  have k1_2 := k1.c2
  have kg_0 := kg.c0
  have kg_1 := kg.c1
  have kg_2 := kg.c2
  have k9_0 := k9.c0
  have k9_1 := k9.c1
  have k9_2 := k9.c2
  go_region_with (first
      | (go_at_call 9; (with_reducible refine (example_walk _ (HT.out.below B0)).mono ?_); rintro e w93 ⟨rfl, bb⟩; have ha := ha.below bb; have hp := hp.below bb; have hr := hr.below bb; have ka := ka.below bb; have kp := kp.below bb; have kr := kr.below bb; have zh := zh.below bb; have kh := kh.below bb; have z1 := z1.below bb; have k1 := k1.below bb; have zg := zg.below bb; have kg := kg.below bb; have k9 := k9.below bb; have B0 := B0.trans (bb.mono B0.size); clear bb))
  all_goals go_wp2
  all_goals go_ret
  all_goals exact ⟨rfl, B0⟩
set_option maxRecDepth 20000 in
set_option maxHeartbeats 8000000 in
theorem ratioField_pos {ba : Bool} {Aa : Option Addr} {na ca : Nat} {Ba : Option Addr} {ma da : Nat} {bp : Bool} {Ap : Option Addr} {np cp : Nat} {Bp : Option Addr} {mp dp : Nat} {br : Bool} {Ar : Option Addr} {nr cr : Nat} {Br : Option Addr} {mr dr : Nat} {xa : Rat} {xp : Rat} {xr : Rat} (w : World) (ha : Qv w (.agg #[.bool ba, .slice Aa na ca, .slice Ba ma da]) xa na ma) (hp : Qv w (.agg #[.bool bp, .slice Ap np cp, .slice Bp mp dp]) xp np mp) (hr : Qv w (.agg #[.bool br, .slice Ar nr cr, .slice Br mr dr]) xr nr mr) (h1 : na ≤ 6 ∧ ma ≤ 6) (h2 : np ≤ 6 ∧ mp ≤ 6) (h3 : nr ≤ 6 ∧ mr ≤ 6) (h0 : xp ≠ 0) (ht : Tab w) :
    Calls Tryd.prog 4 #[.agg #[.bool ba, .slice Aa na ca, .slice Ba ma da], .agg #[.bool bp, .slice Ap np cp, .slice Bp mp dp], .agg #[.bool br, .slice Ar nr cr, .slice Br mr dr]] w (BoolEnd true w) := by
  have HT := Lib.hid ht
  clear ht
  obtain ⟨o, ho, hob⟩ : ∃ o, RatN.cmpQ xp 0 = o ∧ (o != 0) = true := ⟨_, rfl, by have := mt (RatN.cmpQ_zero xp 0).mp h0; simpa using this⟩
  have H0 := Lib.hid h0
  have HO := Lib.hid ho
  clear h0 ho
  have B0 := below_a3 w (.cells #[.bool ba, .slice Aa na ca, .slice Ba ma da] 27) (.cells #[.bool bp, .slice Ap np cp, .slice Bp mp dp] 27) (.cells #[.bool br, .slice Ar nr cr, .slice Br mr dr] 27)
  have ha := ha.below B0
  have hp := hp.below B0
  have hr := hr.below B0
  have ka := (((Bq.new w (w.heap.size) (by simp) (.bool ba) (.slice Aa na ca) (.slice Ba ma da)).below (below_alloc (w.alloc (.cells #[.bool ba, .slice Aa na ca, .slice Ba ma da] 27)) (.cells #[.bool bp, .slice Ap np cp, .slice Bp mp dp] 27))).below (below_alloc ((w.alloc (.cells #[.bool ba, .slice Aa na ca, .slice Ba ma da] 27)).alloc (.cells #[.bool bp, .slice Ap np cp, .slice Bp mp dp] 27)) (.cells #[.bool br, .slice Ar nr cr, .slice Br mr dr] 27)))
  have kp := ((Bq.new (w.alloc (.cells #[.bool ba, .slice Aa na ca, .slice Ba ma da] 27)) (w.heap.size + 1) (by simp) (.bool bp) (.slice Ap np cp) (.slice Bp mp dp)).below (below_alloc ((w.alloc (.cells #[.bool ba, .slice Aa na ca, .slice Ba ma da] 27)).alloc (.cells #[.bool bp, .slice Ap np cp, .slice Bp mp dp] 27)) (.cells #[.bool br, .slice Ar nr cr, .slice Br mr dr] 27)))
  have kr := (Bq.new ((w.alloc (.cells #[.bool ba, .slice Aa na ca, .slice Ba ma da] 27)).alloc (.cells #[.bool bp, .slice Ap np cp, .slice Bp mp dp] 27)) (w.heap.size + 1 + 1) (by simp) (.bool br) (.slice Ar nr cr) (.slice Br mr dr))
  go_enter Tryd.func4, Tryd.ntmps4
  have ka_0 := ka.c0
  have ka_1 := ka.c1
  have ka_2 := ka.c2
  have kp_0 := kp.c0
  have kp_1 := kp.c1
  have kp_2 := kp.c2
  have kr_0 := kr.c0
  have kr_1 := kr.c1
  have kr_2 := kr.c2
  go_wp2_with fail
  refine (light_yes ba Aa na ca Ba ma da _ _ (by omega) (by omega)).mono ?_
  clear ka_0 ka_1 ka_2 kp_0 kp_1 kp_2 kr_0 kr_1 kr_2
  rintro e w1 ⟨rfl, bb⟩
  have ha := ha.below bb
  have hp := hp.below bb
  have hr := hr.below bb
  have ka := ka.below bb
  have kp := kp.below bb
  have kr := kr.below bb
  have B0 := B0.trans (bb.mono B0.size)
  clear bb
  have ka_0 := ka.c0
  have ka_1 := ka.c1
  have ka_2 := ka.c2
  have kp_0 := kp.c0
  have kp_1 := kp.c1
  have kp_2 := kp.c2
  have kr_0 := kr.c0
  have kr_1 := kr.c1
  have kr_2 := kr.c2
  go_wp2_with fail
  refine (light_yes bp Ap np cp Bp mp dp _ _ (by omega) (by omega)).mono ?_
  clear ka_0 ka_1 ka_2 kp_0 kp_1 kp_2 kr_0 kr_1 kr_2
  rintro e w2 ⟨rfl, bb⟩
  have ha := ha.below bb
  have hp := hp.below bb
  have hr := hr.below bb
  have ka := ka.below bb
  have kp := kp.below bb
  have kr := kr.below bb
  have B0 := B0.trans (bb.mono B0.size)
  clear bb
  have ka_0 := ka.c0
  have ka_1 := ka.c1
  have ka_2 := ka.c2
  have kp_0 := kp.c0
  have kp_1 := kp.c1
  have kp_2 := kp.c2
  have kr_0 := kr.c0
  have kr_1 := kr.c1
  have kr_2 := kr.c2
  go_wp2_with fail
  refine (light_yes br Ar nr cr Br mr dr _ _ (by omega) (by omega)).mono ?_
  clear ka_0 ka_1 ka_2 kp_0 kp_1 kp_2 kr_0 kr_1 kr_2
  rintro e w3 ⟨rfl, bb⟩
  have ha := ha.below bb
  have hp := hp.below bb
  have hr := hr.below bb
  have ka := ka.below bb
  have kp := kp.below bb
  have kr := kr.below bb
  have B0 := B0.trans (bb.mono B0.size)
  clear bb
  have ka_0 := ka.c0
  have ka_1 := ka.c1
  have ka_2 := ka.c2
  have kp_0 := kp.c0
  have kp_1 := kp.c1
  have kp_2 := kp.c2
  have kr_0 := kr.c0
  have kr_1 := kr.c1
  have kr_2 := kr.c2
  go_wp2_with fail
  refine (qof_p 0 1 (by decide) (by decide) (by decide) (by decide) _ (by decide) _ rat_01).mono ?_
  clear ka_0 ka_1 ka_2 kp_0 kp_1 kp_2 kr_0 kr_1 kr_2
  rintro e w4 ⟨bh, Ah, nh, ch, Bh, mh, dh, rfl, zh, bb⟩
  have ha := ha.below bb
  have hp := hp.below bb
  have hr := hr.below bb
  have ka := ka.below bb
  have kp := kp.below bb
  have kr := kr.below bb
  have B0 := B0.trans (bb.mono B0.size)
  clear bb
  have ha := ha.below (below_alloc w4 (.cells #[.bool bh, .slice Ah nh ch, .slice Bh mh dh] 27))
  have hp := hp.below (below_alloc w4 (.cells #[.bool bh, .slice Ah nh ch, .slice Bh mh dh] 27))
  have hr := hr.below (below_alloc w4 (.cells #[.bool bh, .slice Ah nh ch, .slice Bh mh dh] 27))
  have ka := ka.below (below_alloc w4 (.cells #[.bool bh, .slice Ah nh ch, .slice Bh mh dh] 27))
  have kp := kp.below (below_alloc w4 (.cells #[.bool bh, .slice Ah nh ch, .slice Bh mh dh] 27))
  have kr := kr.below (below_alloc w4 (.cells #[.bool bh, .slice Ah nh ch, .slice Bh mh dh] 27))
  have zh := zh.below (below_alloc w4 (.cells #[.bool bh, .slice Ah nh ch, .slice Bh mh dh] 27))
  have kh := Bq.new w4 (w4.heap.size) (by simp) (.bool bh) (.slice Ah nh ch) (.slice Bh mh dh)
  have B0 := B0.trans ((below_alloc w4 (.cells #[.bool bh, .slice Ah nh ch, .slice Bh mh dh] 27)).mono B0.size)
  have ka_0 := ka.c0
  have ka_1 := ka.c1
  have ka_2 := ka.c2
  have kp_0 := kp.c0
  have kp_1 := kp.c1
  have kp_2 := kp.c2
  have kr_0 := kr.c0
  have kr_1 := kr.c1
  have kr_2 := kr.c2
  have kh_0 := kh.c0
  have kh_1 := kh.c1
  have kh_2 := kh.c2
  go_wp2_with fail
  refine (qof_p 1 1 (by decide) (by decide) (by decide) (by decide) _ (by decide) _ rat_11).mono ?_
  clear ka_0 ka_1 ka_2 kp_0 kp_1 kp_2 kr_0 kr_1 kr_2 kh_0 kh_1 kh_2
  rintro e w5 ⟨b1, A1, n1, c1, B1, m1, d1, rfl, z1, bb⟩
  have ha := ha.below bb
  have hp := hp.below bb
  have hr := hr.below bb
  have ka := ka.below bb
  have kp := kp.below bb
  have kr := kr.below bb
  have zh := zh.below bb
  have kh := kh.below bb
  have B0 := B0.trans (bb.mono B0.size)
  clear bb
  have ha := ha.below (below_alloc w5 (.cells #[.bool b1, .slice A1 n1 c1, .slice B1 m1 d1] 27))
  have hp := hp.below (below_alloc w5 (.cells #[.bool b1, .slice A1 n1 c1, .slice B1 m1 d1] 27))
  have hr := hr.below (below_alloc w5 (.cells #[.bool b1, .slice A1 n1 c1, .slice B1 m1 d1] 27))
  have ka := ka.below (below_alloc w5 (.cells #[.bool b1, .slice A1 n1 c1, .slice B1 m1 d1] 27))
  have kp := kp.below (below_alloc w5 (.cells #[.bool b1, .slice A1 n1 c1, .slice B1 m1 d1] 27))
  have kr := kr.below (below_alloc w5 (.cells #[.bool b1, .slice A1 n1 c1, .slice B1 m1 d1] 27))
  have zh := zh.below (below_alloc w5 (.cells #[.bool b1, .slice A1 n1 c1, .slice B1 m1 d1] 27))
  have kh := kh.below (below_alloc w5 (.cells #[.bool b1, .slice A1 n1 c1, .slice B1 m1 d1] 27))
  have z1 := z1.below (below_alloc w5 (.cells #[.bool b1, .slice A1 n1 c1, .slice B1 m1 d1] 27))
  have k1 := Bq.new w5 (w5.heap.size) (by simp) (.bool b1) (.slice A1 n1 c1) (.slice B1 m1 d1)
  have B0 := B0.trans ((below_alloc w5 (.cells #[.bool b1, .slice A1 n1 c1, .slice B1 m1 d1] 27)).mono B0.size)
  have ka_0 := ka.c0
  have ka_1 := ka.c1
  have ka_2 := ka.c2
  have kp_0 := kp.c0
  have kp_1 := kp.c1
  have kp_2 := kp.c2
  have kr_0 := kr.c0
  have kr_1 := kr.c1
  have kr_2 := kr.c2
  have kh_0 := kh.c0
  have kh_1 := kh.c1
  have kh_2 := kh.c2
  have k1_0 := k1.c0
  have k1_1 := k1.c1
  have k1_2 := k1.c2
  go_wp2_with fail
  refine (qnorm_q ha (by omega) (by omega)).mono ?_
  clear ka_0 ka_1 ka_2 kp_0 kp_1 kp_2 kr_0 kr_1 kr_2 kh_0 kh_1 kh_2 k1_0 k1_1 k1_2
  rintro e w6 ⟨bg, Ag, ng, cg, Bg, mg, dg, rfl, zg, bb⟩
  have ha := ha.below bb
  have hp := hp.below bb
  have hr := hr.below bb
  have ka := ka.below bb
  have kp := kp.below bb
  have kr := kr.below bb
  have zh := zh.below bb
  have kh := kh.below bb
  have z1 := z1.below bb
  have k1 := k1.below bb
  have B0 := B0.trans (bb.mono B0.size)
  clear bb
  have ha := ha.below (below_alloc w6 (.cells #[.bool bg, .slice Ag ng cg, .slice Bg mg dg] 27))
  have hp := hp.below (below_alloc w6 (.cells #[.bool bg, .slice Ag ng cg, .slice Bg mg dg] 27))
  have hr := hr.below (below_alloc w6 (.cells #[.bool bg, .slice Ag ng cg, .slice Bg mg dg] 27))
  have ka := ka.below (below_alloc w6 (.cells #[.bool bg, .slice Ag ng cg, .slice Bg mg dg] 27))
  have kp := kp.below (below_alloc w6 (.cells #[.bool bg, .slice Ag ng cg, .slice Bg mg dg] 27))
  have kr := kr.below (below_alloc w6 (.cells #[.bool bg, .slice Ag ng cg, .slice Bg mg dg] 27))
  have zh := zh.below (below_alloc w6 (.cells #[.bool bg, .slice Ag ng cg, .slice Bg mg dg] 27))
  have kh := kh.below (below_alloc w6 (.cells #[.bool bg, .slice Ag ng cg, .slice Bg mg dg] 27))
  have z1 := z1.below (below_alloc w6 (.cells #[.bool bg, .slice Ag ng cg, .slice Bg mg dg] 27))
  have k1 := k1.below (below_alloc w6 (.cells #[.bool bg, .slice Ag ng cg, .slice Bg mg dg] 27))
  have zg := zg.below (below_alloc w6 (.cells #[.bool bg, .slice Ag ng cg, .slice Bg mg dg] 27))
  have kg := Bq.new w6 (w6.heap.size) (by simp) (.bool bg) (.slice Ag ng cg) (.slice Bg mg dg)
  have B0 := B0.trans ((below_alloc w6 (.cells #[.bool bg, .slice Ag ng cg, .slice Bg mg dg] 27)).mono B0.size)
  go_wp2_with fail
  have ha := ha.drew
  have hp := hp.drew
  have hr := hr.drew
  have ka := ka.drew
  have kp := kp.drew
  have kr := kr.drew
  have zh := zh.drew
  have kh := kh.drew
  have z1 := z1.drew
  have k1 := k1.drew
  have zg := zg.drew
  have kg := kg.drew
  have B0 := b_drew B0
  go_region_held3 (fun w' => w'.cell? ⟨w.heap.size, 0, none⟩ = some (.bool ba) ∧ w'.cell? ⟨w.heap.size, 1, none⟩ = some (.slice Aa na ca) ∧ w'.cell? ⟨w.heap.size, 2, none⟩ = some (.slice Ba ma da) ∧ w'.cell? ⟨w.heap.size + 1, 0, none⟩ = some (.bool bp) ∧ w'.cell? ⟨w.heap.size + 1, 1, none⟩ = some (.slice Ap np cp) ∧ w'.cell? ⟨w.heap.size + 1, 2, none⟩ = some (.slice Bp mp dp) ∧ w'.cell? ⟨w.heap.size + 1 + 1, 0, none⟩ = some (.bool br) ∧ w'.cell? ⟨w.heap.size + 1 + 1, 1, none⟩ = some (.slice Ar nr cr) ∧ w'.cell? ⟨w.heap.size + 1 + 1, 2, none⟩ = some (.slice Br mr dr) ∧ w'.cell? ⟨w4.heap.size, 0, none⟩ = some (.bool bh) ∧ w'.cell? ⟨w4.heap.size, 1, none⟩ = some (.slice Ah nh ch) ∧ w'.cell? ⟨w4.heap.size, 2, none⟩ = some (.slice Bh mh dh) ∧ w'.cell? ⟨w5.heap.size, 0, none⟩ = some (.bool b1) ∧ w'.cell? ⟨w5.heap.size, 1, none⟩ = some (.slice A1 n1 c1) ∧ w'.cell? ⟨w5.heap.size, 2, none⟩ = some (.slice B1 m1 d1) ∧ w'.cell? ⟨w6.heap.size, 0, none⟩ = some (.bool bg) ∧ w'.cell? ⟨w6.heap.size, 1, none⟩ = some (.slice Ag ng cg) ∧ w'.cell? ⟨w6.heap.size, 2, none⟩ = some (.slice Bg mg dg)) (first | with_reducible exact ⟨ka.c0, ka.c1, ka.c2, kp.c0, kp.c1, kp.c2, kr.c0, kr.c1, kr.c2, kh.c0, kh.c1, kh.c2, k1.c0, k1.c1, k1.c2, kg.c0, kg.c1, kg.c2⟩)
    (first
      | (go_at_call 16; (with_reducible refine (qadd_q ha hp ?_ ?_ ?_ ?_).mono ?_); omega; omega; omega; omega; rintro e w11 ⟨b21, A21, n21, c21, B21, m21, d21, rfl, z21, bb⟩; have ha := ha.below bb; have hp := hp.below bb; have hr := hr.below bb; have ka := ka.below bb; have kp := kp.below bb; have kr := kr.below bb; have zh := zh.below bb; have kh := kh.below bb; have z1 := z1.below bb; have k1 := k1.below bb; have zg := zg.below bb; have kg := kg.below bb; have B0 := B0.trans (bb.mono B0.size); clear bb)
      | (go_at_call 16; (with_reducible refine (qadd_q hp ha ?_ ?_ ?_ ?_).mono ?_); omega; omega; omega; omega; rintro e w12 ⟨b22, A22, n22, c22, B22, m22, d22, rfl, z22, bb⟩; have ha := ha.below bb; have hp := hp.below bb; have hr := hr.below bb; have ka := ka.below bb; have kp := kp.below bb; have kr := kr.below bb; have zh := zh.below bb; have kh := kh.below bb; have z1 := z1.below bb; have k1 := k1.below bb; have zg := zg.below bb; have kg := kg.below bb; have z21 := z21.below bb; have B0 := B0.trans (bb.mono B0.size); clear bb)
      | (go_at_call 12; (with_reducible refine (rsame_q z21 z22 (Rat.add_comm _ _)).mono ?_); rintro e w13 ⟨rfl, bb⟩; have ha := ha.below bb; have hp := hp.below bb; have hr := hr.below bb; have ka := ka.below bb; have kp := kp.below bb; have kr := kr.below bb; have zh := zh.below bb; have kh := kh.below bb; have z1 := z1.below bb; have k1 := k1.below bb; have zg := zg.below bb; have kg := kg.below bb; have z21 := z21.below bb; have z22 := z22.below bb; have B0 := B0.trans (bb.mono B0.size); clear bb)
      | (go_at_call 16; (with_reducible refine (qadd_q z21.qv hr ?_ ?_ ?_ ?_).mono ?_); omega; omega; omega; omega; rintro e w14 ⟨b23, A23, n23, c23, B23, m23, d23, rfl, z23, bb⟩; have ha := ha.below bb; have hp := hp.below bb; have hr := hr.below bb; have ka := ka.below bb; have kp := kp.below bb; have kr := kr.below bb; have zh := zh.below bb; have kh := kh.below bb; have z1 := z1.below bb; have k1 := k1.below bb; have zg := zg.below bb; have kg := kg.below bb; have z21 := z21.below bb; have B0 := B0.trans (bb.mono B0.size); clear bb)
      | (go_at_call 16; (with_reducible refine (qadd_q hp hr ?_ ?_ ?_ ?_).mono ?_); omega; omega; omega; omega; rintro e w15 ⟨b24, A24, n24, c24, B24, m24, d24, rfl, z24, bb⟩; have ha := ha.below bb; have hp := hp.below bb; have hr := hr.below bb; have ka := ka.below bb; have kp := kp.below bb; have kr := kr.below bb; have zh := zh.below bb; have kh := kh.below bb; have z1 := z1.below bb; have k1 := k1.below bb; have zg := zg.below bb; have kg := kg.below bb; have z23 := z23.below bb; have B0 := B0.trans (bb.mono B0.size); clear bb)
      | (go_at_call 16; (with_reducible refine (qadd_q ha z24.qv ?_ ?_ ?_ ?_).mono ?_); omega; omega; omega; omega; rintro e w16 ⟨b25, A25, n25, c25, B25, m25, d25, rfl, z25, bb⟩; have ha := ha.below bb; have hp := hp.below bb; have hr := hr.below bb; have ka := ka.below bb; have kp := kp.below bb; have kr := kr.below bb; have zh := zh.below bb; have kh := kh.below bb; have z1 := z1.below bb; have k1 := k1.below bb; have zg := zg.below bb; have kg := kg.below bb; have z23 := z23.below bb; have z24 := z24.below bb; have B0 := B0.trans (bb.mono B0.size); clear bb)
      | (go_at_call 12; (with_reducible refine (rsame_q z23 z25 (Rat.add_assoc _ _ _)).mono ?_); rintro e w17 ⟨rfl, bb⟩; have ha := ha.below bb; have hp := hp.below bb; have hr := hr.below bb; have ka := ka.below bb; have kp := kp.below bb; have kr := kr.below bb; have zh := zh.below bb; have kh := kh.below bb; have z1 := z1.below bb; have k1 := k1.below bb; have zg := zg.below bb; have kg := kg.below bb; have z23 := z23.below bb; have z25 := z25.below bb; have B0 := B0.trans (bb.mono B0.size); clear bb)
      | (go_at_call 17; (with_reducible refine (qmul_q ha hp ?_ ?_ ?_ ?_).mono ?_); omega; omega; omega; omega; rintro e w18 ⟨b31, A31, n31, c31, B31, m31, d31, rfl, z31, bb⟩; have ha := ha.below bb; have hp := hp.below bb; have hr := hr.below bb; have ka := ka.below bb; have kp := kp.below bb; have kr := kr.below bb; have zh := zh.below bb; have kh := kh.below bb; have z1 := z1.below bb; have k1 := k1.below bb; have zg := zg.below bb; have kg := kg.below bb; have B0 := B0.trans (bb.mono B0.size); clear bb)
      | (go_at_call 17; (with_reducible refine (qmul_q hp ha ?_ ?_ ?_ ?_).mono ?_); omega; omega; omega; omega; rintro e w19 ⟨b32, A32, n32, c32, B32, m32, d32, rfl, z32, bb⟩; have ha := ha.below bb; have hp := hp.below bb; have hr := hr.below bb; have ka := ka.below bb; have kp := kp.below bb; have kr := kr.below bb; have zh := zh.below bb; have kh := kh.below bb; have z1 := z1.below bb; have k1 := k1.below bb; have zg := zg.below bb; have kg := kg.below bb; have z31 := z31.below bb; have B0 := B0.trans (bb.mono B0.size); clear bb)
      | (go_at_call 12; (with_reducible refine (rsame_q z31 z32 (Rat.mul_comm _ _)).mono ?_); rintro e w20 ⟨rfl, bb⟩; have ha := ha.below bb; have hp := hp.below bb; have hr := hr.below bb; have ka := ka.below bb; have kp := kp.below bb; have kr := kr.below bb; have zh := zh.below bb; have kh := kh.below bb; have z1 := z1.below bb; have k1 := k1.below bb; have zg := zg.below bb; have kg := kg.below bb; have z31 := z31.below bb; have z32 := z32.below bb; have B0 := B0.trans (bb.mono B0.size); clear bb)
      | (go_at_call 17; (with_reducible refine (qmul_q z31.qv hr ?_ ?_ ?_ ?_).mono ?_); omega; omega; omega; omega; rintro e w21 ⟨b33, A33, n33, c33, B33, m33, d33, rfl, z33, bb⟩; have ha := ha.below bb; have hp := hp.below bb; have hr := hr.below bb; have ka := ka.below bb; have kp := kp.below bb; have kr := kr.below bb; have zh := zh.below bb; have kh := kh.below bb; have z1 := z1.below bb; have k1 := k1.below bb; have zg := zg.below bb; have kg := kg.below bb; have z31 := z31.below bb; have B0 := B0.trans (bb.mono B0.size); clear bb)
      | (go_at_call 17; (with_reducible refine (qmul_q hp hr ?_ ?_ ?_ ?_).mono ?_); omega; omega; omega; omega; rintro e w22 ⟨b34, A34, n34, c34, B34, m34, d34, rfl, z34, bb⟩; have ha := ha.below bb; have hp := hp.below bb; have hr := hr.below bb; have ka := ka.below bb; have kp := kp.below bb; have kr := kr.below bb; have zh := zh.below bb; have kh := kh.below bb; have z1 := z1.below bb; have k1 := k1.below bb; have zg := zg.below bb; have kg := kg.below bb; have z33 := z33.below bb; have B0 := B0.trans (bb.mono B0.size); clear bb)
      | (go_at_call 17; (with_reducible refine (qmul_q ha z34.qv ?_ ?_ ?_ ?_).mono ?_); omega; omega; omega; omega; rintro e w23 ⟨b35, A35, n35, c35, B35, m35, d35, rfl, z35, bb⟩; have ha := ha.below bb; have hp := hp.below bb; have hr := hr.below bb; have ka := ka.below bb; have kp := kp.below bb; have kr := kr.below bb; have zh := zh.below bb; have kh := kh.below bb; have z1 := z1.below bb; have k1 := k1.below bb; have zg := zg.below bb; have kg := kg.below bb; have z33 := z33.below bb; have z34 := z34.below bb; have B0 := B0.trans (bb.mono B0.size); clear bb)
      | (go_at_call 12; (with_reducible refine (rsame_q z33 z35 (Rat.mul_assoc _ _ _)).mono ?_); rintro e w24 ⟨rfl, bb⟩; have ha := ha.below bb; have hp := hp.below bb; have hr := hr.below bb; have ka := ka.below bb; have kp := kp.below bb; have kr := kr.below bb; have zh := zh.below bb; have kh := kh.below bb; have z1 := z1.below bb; have k1 := k1.below bb; have zg := zg.below bb; have kg := kg.below bb; have z33 := z33.below bb; have z35 := z35.below bb; have B0 := B0.trans (bb.mono B0.size); clear bb))
  go_wp2_with fail
  have ha := ha.drew
  have hp := hp.drew
  have hr := hr.drew
  have ka := ka.drew
  have kp := kp.drew
  have kr := kr.drew
  have zh := zh.drew
  have kh := kh.drew
  have z1 := z1.drew
  have k1 := k1.drew
  have zg := zg.drew
  have kg := kg.drew
  have B0 := b_drew B0
  go_region_held3 (fun w' => w'.cell? ⟨w.heap.size, 0, none⟩ = some (.bool ba) ∧ w'.cell? ⟨w.heap.size, 1, none⟩ = some (.slice Aa na ca) ∧ w'.cell? ⟨w.heap.size, 2, none⟩ = some (.slice Ba ma da) ∧ w'.cell? ⟨w.heap.size + 1, 0, none⟩ = some (.bool bp) ∧ w'.cell? ⟨w.heap.size + 1, 1, none⟩ = some (.slice Ap np cp) ∧ w'.cell? ⟨w.heap.size + 1, 2, none⟩ = some (.slice Bp mp dp) ∧ w'.cell? ⟨w.heap.size + 1 + 1, 0, none⟩ = some (.bool br) ∧ w'.cell? ⟨w.heap.size + 1 + 1, 1, none⟩ = some (.slice Ar nr cr) ∧ w'.cell? ⟨w.heap.size + 1 + 1, 2, none⟩ = some (.slice Br mr dr) ∧ w'.cell? ⟨w4.heap.size, 0, none⟩ = some (.bool bh) ∧ w'.cell? ⟨w4.heap.size, 1, none⟩ = some (.slice Ah nh ch) ∧ w'.cell? ⟨w4.heap.size, 2, none⟩ = some (.slice Bh mh dh) ∧ w'.cell? ⟨w5.heap.size, 0, none⟩ = some (.bool b1) ∧ w'.cell? ⟨w5.heap.size, 1, none⟩ = some (.slice A1 n1 c1) ∧ w'.cell? ⟨w5.heap.size, 2, none⟩ = some (.slice B1 m1 d1) ∧ w'.cell? ⟨w6.heap.size, 0, none⟩ = some (.bool bg) ∧ w'.cell? ⟨w6.heap.size, 1, none⟩ = some (.slice Ag ng cg) ∧ w'.cell? ⟨w6.heap.size, 2, none⟩ = some (.slice Bg mg dg)) (first | with_reducible exact ⟨ka.c0, ka.c1, ka.c2, kp.c0, kp.c1, kp.c2, kr.c0, kr.c1, kr.c2, kh.c0, kh.c1, kh.c2, k1.c0, k1.c1, k1.c2, kg.c0, kg.c1, kg.c2⟩)
    (first
      | (go_at_call 16; (with_reducible refine (qadd_q hp hr ?_ ?_ ?_ ?_).mono ?_); omega; omega; omega; omega; rintro e w25 ⟨b41, A41, n41, c41, B41, m41, d41, rfl, z41, bb⟩; have ha := ha.below bb; have hp := hp.below bb; have hr := hr.below bb; have ka := ka.below bb; have kp := kp.below bb; have kr := kr.below bb; have zh := zh.below bb; have kh := kh.below bb; have z1 := z1.below bb; have k1 := k1.below bb; have zg := zg.below bb; have kg := kg.below bb; have B0 := B0.trans (bb.mono B0.size); clear bb)
      | (go_at_call 17; (with_reducible refine (qmul_q ha z41.qv ?_ ?_ ?_ ?_).mono ?_); omega; omega; omega; omega; rintro e w26 ⟨b42, A42, n42, c42, B42, m42, d42, rfl, z42, bb⟩; have ha := ha.below bb; have hp := hp.below bb; have hr := hr.below bb; have ka := ka.below bb; have kp := kp.below bb; have kr := kr.below bb; have zh := zh.below bb; have kh := kh.below bb; have z1 := z1.below bb; have k1 := k1.below bb; have zg := zg.below bb; have kg := kg.below bb; have z41 := z41.below bb; have B0 := B0.trans (bb.mono B0.size); clear bb)
      | (go_at_call 17; (with_reducible refine (qmul_q ha hp ?_ ?_ ?_ ?_).mono ?_); omega; omega; omega; omega; rintro e w27 ⟨b43, A43, n43, c43, B43, m43, d43, rfl, z43, bb⟩; have ha := ha.below bb; have hp := hp.below bb; have hr := hr.below bb; have ka := ka.below bb; have kp := kp.below bb; have kr := kr.below bb; have zh := zh.below bb; have kh := kh.below bb; have z1 := z1.below bb; have k1 := k1.below bb; have zg := zg.below bb; have kg := kg.below bb; have z42 := z42.below bb; have B0 := B0.trans (bb.mono B0.size); clear bb)
      | (go_at_call 17; (with_reducible refine (qmul_q ha hr ?_ ?_ ?_ ?_).mono ?_); omega; omega; omega; omega; rintro e w28 ⟨b44, A44, n44, c44, B44, m44, d44, rfl, z44, bb⟩; have ha := ha.below bb; have hp := hp.below bb; have hr := hr.below bb; have ka := ka.below bb; have kp := kp.below bb; have kr := kr.below bb; have zh := zh.below bb; have kh := kh.below bb; have z1 := z1.below bb; have k1 := k1.below bb; have zg := zg.below bb; have kg := kg.below bb; have z42 := z42.below bb; have z43 := z43.below bb; have B0 := B0.trans (bb.mono B0.size); clear bb)
      | (go_at_call 16; (with_reducible refine (qadd_q z43.qv z44.qv ?_ ?_ ?_ ?_).mono ?_); omega; omega; omega; omega; rintro e w29 ⟨b45, A45, n45, c45, B45, m45, d45, rfl, z45, bb⟩; have ha := ha.below bb; have hp := hp.below bb; have hr := hr.below bb; have ka := ka.below bb; have kp := kp.below bb; have kr := kr.below bb; have zh := zh.below bb; have kh := kh.below bb; have z1 := z1.below bb; have k1 := k1.below bb; have zg := zg.below bb; have kg := kg.below bb; have z42 := z42.below bb; have z43 := z43.below bb; have z44 := z44.below bb; have B0 := B0.trans (bb.mono B0.size); clear bb)
      | (go_at_call 12; (with_reducible refine (rsame_q z42 z45 (Rat.mul_add _ _ _)).mono ?_); rintro e w30 ⟨rfl, bb⟩; have ha := ha.below bb; have hp := hp.below bb; have hr := hr.below bb; have ka := ka.below bb; have kp := kp.below bb; have kr := kr.below bb; have zh := zh.below bb; have kh := kh.below bb; have z1 := z1.below bb; have k1 := k1.below bb; have zg := zg.below bb; have kg := kg.below bb; have z42 := z42.below bb; have z45 := z45.below bb; have B0 := B0.trans (bb.mono B0.size); clear bb)
      | (go_at_call 16; (with_reducible refine (qadd_q ha zh.qv ?_ ?_ ?_ ?_).mono ?_); omega; omega; omega; omega; rintro e w31 ⟨b46, A46, n46, c46, B46, m46, d46, rfl, z46, bb⟩; have ha := ha.below bb; have hp := hp.below bb; have hr := hr.below bb; have ka := ka.below bb; have kp := kp.below bb; have kr := kr.below bb; have zh := zh.below bb; have kh := kh.below bb; have z1 := z1.below bb; have k1 := k1.below bb; have zg := zg.below bb; have kg := kg.below bb; have B0 := B0.trans (bb.mono B0.size); clear bb)
      | (go_at_call 12; (with_reducible refine (rsame_q z46 zg (Rat.add_zero _)).mono ?_); rintro e w32 ⟨rfl, bb⟩; have ha := ha.below bb; have hp := hp.below bb; have hr := hr.below bb; have ka := ka.below bb; have kp := kp.below bb; have kr := kr.below bb; have zh := zh.below bb; have kh := kh.below bb; have z1 := z1.below bb; have k1 := k1.below bb; have zg := zg.below bb; have kg := kg.below bb; have z46 := z46.below bb; have B0 := B0.trans (bb.mono B0.size); clear bb)
      | (go_at_call 17; (with_reducible refine (qmul_q ha z1.qv ?_ ?_ ?_ ?_).mono ?_); omega; omega; omega; omega; rintro e w33 ⟨b47, A47, n47, c47, B47, m47, d47, rfl, z47, bb⟩; have ha := ha.below bb; have hp := hp.below bb; have hr := hr.below bb; have ka := ka.below bb; have kp := kp.below bb; have kr := kr.below bb; have zh := zh.below bb; have kh := kh.below bb; have z1 := z1.below bb; have k1 := k1.below bb; have zg := zg.below bb; have kg := kg.below bb; have B0 := B0.trans (bb.mono B0.size); clear bb)
      | (go_at_call 12; (with_reducible refine (rsame_q z47 zg (Rat.mul_one _)).mono ?_); rintro e w34 ⟨rfl, bb⟩; have ha := ha.below bb; have hp := hp.below bb; have hr := hr.below bb; have ka := ka.below bb; have kp := kp.below bb; have kr := kr.below bb; have zh := zh.below bb; have kh := kh.below bb; have z1 := z1.below bb; have k1 := k1.below bb; have zg := zg.below bb; have kg := kg.below bb; have z47 := z47.below bb; have B0 := B0.trans (bb.mono B0.size); clear bb)
      | (go_at_call 23; (with_reducible refine (qneg_q ha ?_ ?_).mono ?_); omega; omega; rintro e w35 ⟨b48, A48, n48, c48, B48, m48, d48, rfl, z48, bb⟩; have ha := ha.below bb; have hp := hp.below bb; have hr := hr.below bb; have ka := ka.below bb; have kp := kp.below bb; have kr := kr.below bb; have zh := zh.below bb; have kh := kh.below bb; have z1 := z1.below bb; have k1 := k1.below bb; have zg := zg.below bb; have kg := kg.below bb; have B0 := B0.trans (bb.mono B0.size); clear bb)
      | (go_at_call 16; (with_reducible refine (qadd_q ha z48.qv ?_ ?_ ?_ ?_).mono ?_); omega; omega; omega; omega; rintro e w36 ⟨b49, A49, n49, c49, B49, m49, d49, rfl, z49, bb⟩; have ha := ha.below bb; have hp := hp.below bb; have hr := hr.below bb; have ka := ka.below bb; have kp := kp.below bb; have kr := kr.below bb; have zh := zh.below bb; have kh := kh.below bb; have z1 := z1.below bb; have k1 := k1.below bb; have zg := zg.below bb; have kg := kg.below bb; have z48 := z48.below bb; have B0 := B0.trans (bb.mono B0.size); clear bb)
      | (go_at_call 12; (with_reducible refine (rsame_q z49 zh (by grind)).mono ?_); rintro e w37 ⟨rfl, bb⟩; have ha := ha.below bb; have hp := hp.below bb; have hr := hr.below bb; have ka := ka.below bb; have kp := kp.below bb; have kr := kr.below bb; have zh := zh.below bb; have kh := kh.below bb; have z1 := z1.below bb; have k1 := k1.below bb; have zg := zg.below bb; have kg := kg.below bb; have z49 := z49.below bb; have B0 := B0.trans (bb.mono B0.size); clear bb)
      | (go_at_call 24; (with_reducible refine (qsub_q ha hp ?_ ?_ ?_ ?_).mono ?_); omega; omega; omega; omega; rintro e w38 ⟨b50, A50, n50, c50, B50, m50, d50, rfl, z50, bb⟩; have ha := ha.below bb; have hp := hp.below bb; have hr := hr.below bb; have ka := ka.below bb; have kp := kp.below bb; have kr := kr.below bb; have zh := zh.below bb; have kh := kh.below bb; have z1 := z1.below bb; have k1 := k1.below bb; have zg := zg.below bb; have kg := kg.below bb; have B0 := B0.trans (bb.mono B0.size); clear bb)
      | (go_at_call 23; (with_reducible refine (qneg_q hp ?_ ?_).mono ?_); omega; omega; rintro e w39 ⟨b51, A51, n51, c51, B51, m51, d51, rfl, z51, bb⟩; have ha := ha.below bb; have hp := hp.below bb; have hr := hr.below bb; have ka := ka.below bb; have kp := kp.below bb; have kr := kr.below bb; have zh := zh.below bb; have kh := kh.below bb; have z1 := z1.below bb; have k1 := k1.below bb; have zg := zg.below bb; have kg := kg.below bb; have z50 := z50.below bb; have B0 := B0.trans (bb.mono B0.size); clear bb)
      | (go_at_call 16; (with_reducible refine (qadd_q ha z51.qv ?_ ?_ ?_ ?_).mono ?_); omega; omega; omega; omega; rintro e w40 ⟨b52, A52, n52, c52, B52, m52, d52, rfl, z52, bb⟩; have ha := ha.below bb; have hp := hp.below bb; have hr := hr.below bb; have ka := ka.below bb; have kp := kp.below bb; have kr := kr.below bb; have zh := zh.below bb; have kh := kh.below bb; have z1 := z1.below bb; have k1 := k1.below bb; have zg := zg.below bb; have kg := kg.below bb; have z50 := z50.below bb; have z51 := z51.below bb; have B0 := B0.trans (bb.mono B0.size); clear bb)
      | (go_at_call 12; (with_reducible refine (rsame_q z50 z52 (by grind)).mono ?_); rintro e w41 ⟨rfl, bb⟩; have ha := ha.below bb; have hp := hp.below bb; have hr := hr.below bb; have ka := ka.below bb; have kp := kp.below bb; have kr := kr.below bb; have zh := zh.below bb; have kh := kh.below bb; have z1 := z1.below bb; have k1 := k1.below bb; have zg := zg.below bb; have kg := kg.below bb; have z50 := z50.below bb; have z52 := z52.below bb; have B0 := B0.trans (bb.mono B0.size); clear bb))
  have ka_0 := ka.c0
  have ka_1 := ka.c1
  have ka_2 := ka.c2
  have kp_0 := kp.c0
  have kp_1 := kp.c1
  have kp_2 := kp.c2
  have kr_0 := kr.c0
  have kr_1 := kr.c1
  have kr_2 := kr.c2
  have kh_0 := kh.c0
  have kh_1 := kh.c1
  have kh_2 := kh.c2
  have k1_0 := k1.c0
  have k1_1 := k1.c1
  have k1_2 := k1.c2
  have kg_0 := kg.c0
  have kg_1 := kg.c1
  have kg_2 := kg.c2
  go_wp2_with fail
  refine (qdiv_q ha hp (by omega) (by omega) (by omega) (by omega) H0.out).mono ?_
  clear ka_0 ka_1 ka_2 kp_0 kp_1 kp_2 kr_0 kr_1 kr_2 kh_0 kh_1 kh_2 k1_0 k1_1 k1_2 kg_0 kg_1 kg_2
  rintro e w91 ⟨b9, A9, n9, c9, B9, m9, d9, rfl, z9, bb⟩
  have ha := ha.below bb
  have hp := hp.below bb
  have hr := hr.below bb
  have ka := ka.below bb
  have kp := kp.below bb
  have kr := kr.below bb
  have zh := zh.below bb
  have kh := kh.below bb
  have z1 := z1.below bb
  have k1 := k1.below bb
  have zg := zg.below bb
  have kg := kg.below bb
  have B0 := B0.trans (bb.mono B0.size)
  clear bb
  have ha := ha.below (below_alloc w91 (.cells #[.bool b9, .slice A9 n9 c9, .slice B9 m9 d9] 27))
  have hp := hp.below (below_alloc w91 (.cells #[.bool b9, .slice A9 n9 c9, .slice B9 m9 d9] 27))
  have hr := hr.below (below_alloc w91 (.cells #[.bool b9, .slice A9 n9 c9, .slice B9 m9 d9] 27))
  have ka := ka.below (below_alloc w91 (.cells #[.bool b9, .slice A9 n9 c9, .slice B9 m9 d9] 27))
  have kp := kp.below (below_alloc w91 (.cells #[.bool b9, .slice A9 n9 c9, .slice B9 m9 d9] 27))
  have kr := kr.below (below_alloc w91 (.cells #[.bool b9, .slice A9 n9 c9, .slice B9 m9 d9] 27))
  have zh := zh.below (below_alloc w91 (.cells #[.bool b9, .slice A9 n9 c9, .slice B9 m9 d9] 27))
  have kh := kh.below (below_alloc w91 (.cells #[.bool b9, .slice A9 n9 c9, .slice B9 m9 d9] 27))
  have z1 := z1.below (below_alloc w91 (.cells #[.bool b9, .slice A9 n9 c9, .slice B9 m9 d9] 27))
  have k1 := k1.below (below_alloc w91 (.cells #[.bool b9, .slice A9 n9 c9, .slice B9 m9 d9] 27))
  have zg := zg.below (below_alloc w91 (.cells #[.bool b9, .slice A9 n9 c9, .slice B9 m9 d9] 27))
  have kg := kg.below (below_alloc w91 (.cells #[.bool b9, .slice A9 n9 c9, .slice B9 m9 d9] 27))
  have z9 := z9.below (below_alloc w91 (.cells #[.bool b9, .slice A9 n9 c9, .slice B9 m9 d9] 27))
  have k9 := Bq.new w91 (w91.heap.size) (by simp) (.bool b9) (.slice A9 n9 c9) (.slice B9 m9 d9)
  have B0 := B0.trans ((below_alloc w91 (.cells #[.bool b9, .slice A9 n9 c9, .slice B9 m9 d9] 27)).mono B0.size)
  have ka_0 := ka.c0
  have ka_1 := ka.c1
  have ka_2 := ka.c2
  have kp_0 := kp.c0
  have kp_1 := kp.c1
  have kp_2 := kp.c2
  have kr_0 := kr.c0
  have kr_1 := kr.c1
  have kr_2 := kr.c2
  have kh_0 := kh.c0
  have kh_1 := kh.c1
  have kh_2 := kh.c2
  have k1_0 := k1.c0
  have k1_1 := k1.c1
  have k1_2 := k1.c2
  have kg_0 := kg.c0
  have kg_1 := kg.c1
  have kg_2 := kg.c2
  have k9_0 := k9.c0
  have k9_1 := k9.c1
  have k9_2 := k9.c2
  go_wp2_with fail
  refine (qcmp_q hp zh.qv (by omega) (by omega) (by omega) (by omega) _ HO.out).mono ?_
  clear ka_0 ka_1 ka_2 kp_0 kp_1 kp_2 kr_0 kr_1 kr_2 kh_0 kh_1 kh_2 k1_0 k1_1 k1_2 kg_0 kg_1 kg_2 k9_0 k9_1 k9_2
  rintro e w92 ⟨rfl, bb⟩
  have ha := ha.below bb
  have hp := hp.below bb
  have hr := hr.below bb
  have ka := ka.below bb
  have kp := kp.below bb
  have kr := kr.below bb
  have zh := zh.below bb
  have kh := kh.below bb
  have z1 := z1.below bb
  have k1 := k1.below bb
  have zg := zg.below bb
  have kg := kg.below bb
  have z9 := z9.below bb
  have k9 := k9.below bb
  have B0 := B0.trans (bb.mono B0.size)
  clear bb
  go_wp2_with fail
  have ha := ha.drew
  have hp := hp.drew
  have hr := hr.drew
  have ka := ka.drew
  have kp := kp.drew
  have kr := kr.drew
  have zh := zh.drew
  have kh := kh.drew
  have z1 := z1.drew
  have k1 := k1.drew
  have zg := zg.drew
  have kg := kg.drew
  have z9 := z9.drew
  have k9 := k9.drew
  have B0 := b_drew B0
  go_region_held3 (fun w' => w'.cell? ⟨w.heap.size, 0, none⟩ = some (.bool ba) ∧ w'.cell? ⟨w.heap.size, 1, none⟩ = some (.slice Aa na ca) ∧ w'.cell? ⟨w.heap.size, 2, none⟩ = some (.slice Ba ma da) ∧ w'.cell? ⟨w.heap.size + 1, 0, none⟩ = some (.bool bp) ∧ w'.cell? ⟨w.heap.size + 1, 1, none⟩ = some (.slice Ap np cp) ∧ w'.cell? ⟨w.heap.size + 1, 2, none⟩ = some (.slice Bp mp dp) ∧ w'.cell? ⟨w.heap.size + 1 + 1, 0, none⟩ = some (.bool br) ∧ w'.cell? ⟨w.heap.size + 1 + 1, 1, none⟩ = some (.slice Ar nr cr) ∧ w'.cell? ⟨w.heap.size + 1 + 1, 2, none⟩ = some (.slice Br mr dr) ∧ w'.cell? ⟨w4.heap.size, 0, none⟩ = some (.bool bh) ∧ w'.cell? ⟨w4.heap.size, 1, none⟩ = some (.slice Ah nh ch) ∧ w'.cell? ⟨w4.heap.size, 2, none⟩ = some (.slice Bh mh dh) ∧ w'.cell? ⟨w5.heap.size, 0, none⟩ = some (.bool b1) ∧ w'.cell? ⟨w5.heap.size, 1, none⟩ = some (.slice A1 n1 c1) ∧ w'.cell? ⟨w5.heap.size, 2, none⟩ = some (.slice B1 m1 d1) ∧ w'.cell? ⟨w6.heap.size, 0, none⟩ = some (.bool bg) ∧ w'.cell? ⟨w6.heap.size, 1, none⟩ = some (.slice Ag ng cg) ∧ w'.cell? ⟨w6.heap.size, 2, none⟩ = some (.slice Bg mg dg) ∧ w'.cell? ⟨w91.heap.size, 0, none⟩ = some (.bool b9) ∧ w'.cell? ⟨w91.heap.size, 1, none⟩ = some (.slice A9 n9 c9) ∧ w'.cell? ⟨w91.heap.size, 2, none⟩ = some (.slice B9 m9 d9)) (first | with_reducible exact ⟨ka.c0, ka.c1, ka.c2, kp.c0, kp.c1, kp.c2, kr.c0, kr.c1, kr.c2, kh.c0, kh.c1, kh.c2, k1.c0, k1.c1, k1.c2, kg.c0, kg.c1, kg.c2, k9.c0, k9.c1, k9.c2⟩)
    (first
      | (go_at_call 17; (with_reducible refine (qmul_q z9.qv hp ?_ ?_ ?_ ?_).mono ?_); omega; omega; omega; omega; rintro e w93 ⟨b95, A95, n95, c95, B95, m95, d95, rfl, z95, bb⟩; have ha := ha.below bb; have hp := hp.below bb; have hr := hr.below bb; have ka := ka.below bb; have kp := kp.below bb; have kr := kr.below bb; have zh := zh.below bb; have kh := kh.below bb; have z1 := z1.below bb; have k1 := k1.below bb; have zg := zg.below bb; have kg := kg.below bb; have z9 := z9.below bb; have k9 := k9.below bb; have B0 := B0.trans (bb.mono B0.size); clear bb)
      | (go_at_call 12; (with_reducible refine (rsame_q z95 zg (Rat.div_mul_cancel H0.out)).mono ?_); rintro e w94 ⟨rfl, bb⟩; have ha := ha.below bb; have hp := hp.below bb; have hr := hr.below bb; have ka := ka.below bb; have kp := kp.below bb; have kr := kr.below bb; have zh := zh.below bb; have kh := kh.below bb; have z1 := z1.below bb; have k1 := k1.below bb; have zg := zg.below bb; have kg := kg.below bb; have z9 := z9.below bb; have k9 := k9.below bb; have z95 := z95.below bb; have B0 := B0.trans (bb.mono B0.size); clear bb)
      | (go_at_call 9; (with_reducible refine (example_walk _ (HT.out.below B0)).mono ?_); rintro e w95 ⟨rfl, bb⟩; have ha := ha.below bb; have hp := hp.below bb; have hr := hr.below bb; have ka := ka.below bb; have kp := kp.below bb; have kr := kr.below bb; have zh := zh.below bb; have kh := kh.below bb; have z1 := z1.below bb; have k1 := k1.below bb; have zg := zg.below bb; have kg := kg.below bb; have z9 := z9.below bb; have k9 := k9.below bb; have B0 := B0.trans (bb.mono B0.size); clear bb))
  go_wp2
  go_ret
  exact ⟨rfl, B0⟩
theorem ratioField_walk {va : Value} {xa : Rat} {ka ja : Nat} {vp : Value} {xp : Rat} {kp jp : Nat} {vr : Value} {xr : Rat} {kr jr : Nat} (w : World) (ha : Qv w va xa ka ja) (hp : Qv w vp xp kp jp) (hr : Qv w vr xr kr jr) (ht : Tab w) : Calls Tryd.prog 4 #[va, vp, vr] w (BoolEnd true w) := by
  obtain ⟨ba, Aa, na, ca, Ba, ma, da, rfl, _, _, ha⟩ := ha.named
  obtain ⟨bp, Ap, np, cp, Bp, mp, dp, rfl, _, _, hp⟩ := hp.named
  obtain ⟨br, Ar, nr, cr, Br, mr, dr, rfl, _, _, hr⟩ := hr.named
  by_cases la : 6 < na ∨ 6 < ma
  · exact ratioField_long_a w la ht
  by_cases lp : 6 < np ∨ 6 < mp
  · exact ratioField_long_p w (by omega) lp ht
  by_cases lr : 6 < nr ∨ 6 < mr
  · exact ratioField_long_r w (by omega) (by omega) lr ht
  by_cases h0 : xp = 0
  · exact ratioField_zero w ha hp hr (by omega) (by omega) (by omega) h0 ht
  · exact ratioField_pos w ha hp hr (by omega) (by omega) (by omega) h0 ht
end Go.Proofs.YtfdildganfjahaaDoor
