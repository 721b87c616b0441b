/-
  The walk of garmentlaw03.RatioRoundTrip: it returns true, whatever the input.
-/
import Derived.Test.YtfdildganfjahaaDoorRatE
import Derived.Test.YtfdildganfjahaaDoorRatR
namespace Go.Proofs.YtfdildganfjahaaDoor
open Go.RowKit
attribute [local go_sem ↓] Go.wp_at_zero Go.wp_at_succ
set_option linter.unusedVariables false

set_option maxRecDepth 20000 in
set_option maxHeartbeats 8000000 in
theorem ratioRoundTrip_long_a {ba : Bool} {Aa : Option Addr} {na ca : Nat} {Ba : Option Addr} {ma da : Nat} (w : World) (hl : 30 < na ∨ 30 < ma) (ht : Tab w) :
    Calls Tryd.prog 7 #[.agg #[.bool ba, .slice Aa na ca, .slice Ba ma da]] w (BoolEnd true w) := by
  have HT := Lib.hid ht
  clear ht
  have B0 := below_a1 w (.cells #[.bool ba, .slice Aa na ca, .slice Ba ma da] 27)
  have ka := (Bq.new w (w.heap.size) (by simp) (.bool ba) (.slice Aa na ca) (.slice Ba ma da))
  go_enter Tryd.func7, Tryd.ntmps7
  have ka_0 := ka.c0
  have ka_1 := ka.c1
  have ka_2 := ka.c2
  go_wp2_with fail
  refine (light_not ba Aa na ca Ba ma da _ _ (by omega)).mono ?_
  clear ka_0 ka_1 ka_2
  rintro e w1 ⟨rfl, bb⟩
  have ka := ka.below bb
  have B0 := B0.trans (bb.mono B0.size)
  clear bb
  have ka_0 := ka.c0
  have ka_1 := ka.c1
  have ka_2 := ka.c2
  go_wp2_with fail
  refine (example_walk _ (HT.out.below B0)).mono ?_
  clear ka_0 ka_1 ka_2
  rintro e w2 ⟨rfl, bb⟩
  have ka := ka.below bb
  have B0 := B0.trans (bb.mono B0.size)
  clear bb
  go_wp2
  go_ret
  exact ⟨rfl, B0⟩
set_option maxRecDepth 20000 in
set_option maxHeartbeats 8000000 in
theorem ratioRoundTrip_b1 {ba : Bool} {Aa : Option Addr} {na ca : Nat} {Ba : Option Addr} {ma da : Nat} {xa : Rat} (w : World) (ha : Qv w (.agg #[.bool ba, .slice Aa na ca, .slice Ba ma da]) xa na ma) (ha1 : na ≤ 30 ∧ ma ≤ 30) (t1 t2 : ByteArray) (ht1 : t1.data.toList = Lib.decDigits xa.num.natAbs) (ht2 : t2.data.toList = Lib.decDigits xa.den) (h1 : 200 < t1.size) (ht : Tab w) :
    Calls Tryd.prog 7 #[.agg #[.bool ba, .slice Aa na ca, .slice Ba ma da]] w (BoolEnd true w) := by
  have HT := Lib.hid ht
  clear ht
  have HT1 := Lib.hid ht1
  have HT2 := Lib.hid ht2
  clear ht1 ht2
  have B0 := below_a1 w (.cells #[.bool ba, .slice Aa na ca, .slice Ba ma da] 27)
  have ha := ha.below B0
  have ka := (Bq.new w (w.heap.size) (by simp) (.bool ba) (.slice Aa na ca) (.slice Ba ma da))
  go_enter Tryd.func7, Tryd.ntmps7
  have ka_0 := ka.c0
  have ka_1 := ka.c1
  have ka_2 := ka.c2
  go_wp2_with fail
  refine (light_yes ba Aa na ca Ba ma da _ _ (by omega) (by omega)).mono ?_
  clear ka_0 ka_1 ka_2
  rintro e w1 ⟨rfl, bb⟩
  have ha := ha.below bb
  have ka := ka.below bb
  have B0 := B0.trans (bb.mono B0.size)
  clear bb
  have ka_0 := ka.c0
  have ka_1 := ka.c1
  have ka_2 := ka.c2
  go_wp2_with fail
  refine (qnorm_q ha (by omega) (by omega)).mono ?_
  clear ka_0 ka_1 ka_2
  rintro e w2 ⟨bx, Ax, nx, cx, Bx, mx, dx, rfl, zx, bb⟩
  have ha := ha.below bb
  have ka := ka.below bb
  have B0 := B0.trans (bb.mono B0.size)
  clear bb
  have ha := ha.below (below_alloc w2 (.cells #[.bool bx, .slice Ax nx cx, .slice Bx mx dx] 27))
  have ka := ka.below (below_alloc w2 (.cells #[.bool bx, .slice Ax nx cx, .slice Bx mx dx] 27))
  have zx := zx.below (below_alloc w2 (.cells #[.bool bx, .slice Ax nx cx, .slice Bx mx dx] 27))
  have kx := Bq.new w2 (w2.heap.size) (by simp) (.bool bx) (.slice Ax nx cx) (.slice Bx mx dx)
  have B0 := B0.trans ((below_alloc w2 (.cells #[.bool bx, .slice Ax nx cx, .slice Bx mx dx] 27)).mono B0.size)
  obtain ⟨mx, nx', hnx, _⟩ := zx.parts.1.parts
  have hzn : xa.num.natAbs = mx := by rw [hnx]; exact RatN.sgn_abs _ _
  have HT1' : Hid (t1.data.toList = Lib.decDigits mx) := by show _ = _; rw [← hzn]; exact HT1.out
  clear hnx hzn
  have dx' := zx.parts.2
  have ka_0 := ka.c0
  have ka_1 := ka.c1
  have ka_2 := ka.c2
  have kx_0 := kx.c0
  have kx_1 := kx.c1
  have kx_2 := kx.c2
  go_wp2_with fail
  refine (rtext_n nx'.nm (by omega) t1 HT1'.out).mono ?_
  clear ka_0 ka_1 ka_2 kx_0 kx_1 kx_2
  rintro e w3 ⟨rfl, bb⟩
  have ha := ha.below bb
  have ka := ka.below bb
  have zx := zx.below bb
  have kx := kx.below bb
  have nx' := nx'.below bb
  have dx' := dx'.below bb
  have B0 := B0.trans (bb.mono B0.size)
  clear bb
  have ka_0 := ka.c0
  have ka_1 := ka.c1
  have ka_2 := ka.c2
  have kx_0 := kx.c0
  have kx_1 := kx.c1
  have kx_2 := kx.c2
  go_wp2_with fail
  refine (example_walk _ (HT.out.below B0)).mono ?_
  clear ka_0 ka_1 ka_2 kx_0 kx_1 kx_2
  rintro e w4 ⟨rfl, bb⟩
  have ha := ha.below bb
  have ka := ka.below bb
  have zx := zx.below bb
  have kx := kx.below bb
  have dx' := dx'.below bb
  have B0 := B0.trans (bb.mono B0.size)
  clear bb
  go_wp2
  go_ret
  exact ⟨rfl, B0⟩
set_option maxRecDepth 20000 in
set_option maxHeartbeats 8000000 in
theorem ratioRoundTrip_b2 {ba : Bool} {Aa : Option Addr} {na ca : Nat} {Ba : Option Addr} {ma da : Nat} {xa : Rat} (w : World) (ha : Qv w (.agg #[.bool ba, .slice Aa na ca, .slice Ba ma da]) xa na ma) (ha1 : na ≤ 30 ∧ ma ≤ 30) (t1 t2 : ByteArray) (ht1 : t1.data.toList = Lib.decDigits xa.num.natAbs) (ht2 : t2.data.toList = Lib.decDigits xa.den) (h1 : ¬ 200 < t1.size) (h2 : 200 < t2.size) (ht : Tab w) :
    Calls Tryd.prog 7 #[.agg #[.bool ba, .slice Aa na ca, .slice Ba ma da]] w (BoolEnd true w) := by
  have HT := Lib.hid ht
  clear ht
  have HT1 := Lib.hid ht1
  have HT2 := Lib.hid ht2
  clear ht1 ht2
  have B0 := below_a1 w (.cells #[.bool ba, .slice Aa na ca, .slice Ba ma da] 27)
  have ha := ha.below B0
  have ka := (Bq.new w (w.heap.size) (by simp) (.bool ba) (.slice Aa na ca) (.slice Ba ma da))
  go_enter Tryd.func7, Tryd.ntmps7
  have ka_0 := ka.c0
  have ka_1 := ka.c1
  have ka_2 := ka.c2
  go_wp2_with fail
  refine (light_yes ba Aa na ca Ba ma da _ _ (by omega) (by omega)).mono ?_
  clear ka_0 ka_1 ka_2
  rintro e w1 ⟨rfl, bb⟩
  have ha := ha.below bb
  have ka := ka.below bb
  have B0 := B0.trans (bb.mono B0.size)
  clear bb
  have ka_0 := ka.c0
  have ka_1 := ka.c1
  have ka_2 := ka.c2
  go_wp2_with fail
  refine (qnorm_q ha (by omega) (by omega)).mono ?_
  clear ka_0 ka_1 ka_2
  rintro e w2 ⟨bx, Ax, nx, cx, Bx, mx, dx, rfl, zx, bb⟩
  have ha := ha.below bb
  have ka := ka.below bb
  have B0 := B0.trans (bb.mono B0.size)
  clear bb
  have ha := ha.below (below_alloc w2 (.cells #[.bool bx, .slice Ax nx cx, .slice Bx mx dx] 27))
  have ka := ka.below (below_alloc w2 (.cells #[.bool bx, .slice Ax nx cx, .slice Bx mx dx] 27))
  have zx := zx.below (below_alloc w2 (.cells #[.bool bx, .slice Ax nx cx, .slice Bx mx dx] 27))
  have kx := Bq.new w2 (w2.heap.size) (by simp) (.bool bx) (.slice Ax nx cx) (.slice Bx mx dx)
  have B0 := B0.trans ((below_alloc w2 (.cells #[.bool bx, .slice Ax nx cx, .slice Bx mx dx] 27)).mono B0.size)
  obtain ⟨mx, nx', hnx, _⟩ := zx.parts.1.parts
  have hzn : xa.num.natAbs = mx := by rw [hnx]; exact RatN.sgn_abs _ _
  have HT1' : Hid (t1.data.toList = Lib.decDigits mx) := by show _ = _; rw [← hzn]; exact HT1.out
  clear hnx hzn
  have dx' := zx.parts.2
  have ka_0 := ka.c0
  have ka_1 := ka.c1
  have ka_2 := ka.c2
  have kx_0 := kx.c0
  have kx_1 := kx.c1
  have kx_2 := kx.c2
  go_wp2_with fail
  refine (rtext_n nx'.nm (by omega) t1 HT1'.out).mono ?_
  clear ka_0 ka_1 ka_2 kx_0 kx_1 kx_2
  rintro e w3 ⟨rfl, bb⟩
  have ha := ha.below bb
  have ka := ka.below bb
  have zx := zx.below bb
  have kx := kx.below bb
  have nx' := nx'.below bb
  have dx' := dx'.below bb
  have B0 := B0.trans (bb.mono B0.size)
  clear bb
  have ka_0 := ka.c0
  have ka_1 := ka.c1
  have ka_2 := ka.c2
  have kx_0 := kx.c0
  have kx_1 := kx.c1
  have kx_2 := kx.c2
  go_wp2_with fail
  refine (rtext_n dx'.nm (by omega) t2 HT2.out).mono ?_
  clear ka_0 ka_1 ka_2 kx_0 kx_1 kx_2
  rintro e w4 ⟨rfl, bb⟩
  have ha := ha.below bb
  have ka := ka.below bb
  have zx := zx.below bb
  have kx := kx.below bb
  have dx' := dx'.below bb
  have B0 := B0.trans (bb.mono B0.size)
  clear bb
  have ka_0 := ka.c0
  have ka_1 := ka.c1
  have ka_2 := ka.c2
  have kx_0 := kx.c0
  have kx_1 := kx.c1
  have kx_2 := kx.c2
  go_wp2_with fail
  refine (example_walk _ (HT.out.below B0)).mono ?_
  clear ka_0 ka_1 ka_2 kx_0 kx_1 kx_2
  rintro e w5 ⟨rfl, bb⟩
  have ha := ha.below bb
  have ka := ka.below bb
  have zx := zx.below bb
  have kx := kx.below bb
  have B0 := B0.trans (bb.mono B0.size)
  clear bb
  go_wp2
  go_ret
  exact ⟨rfl, B0⟩
set_option maxRecDepth 20000 in
set_option maxHeartbeats 8000000 in
theorem ratioRoundTrip_ok {ba : Bool} {Aa : Option Addr} {na ca : Nat} {Ba : Option Addr} {ma da : Nat} {xa : Rat} (w : World) (ha : Qv w (.agg #[.bool ba, .slice Aa na ca, .slice Ba ma da]) xa na ma) (ha1 : na ≤ 30 ∧ ma ≤ 30) (t1 t2 : ByteArray) (ht1 : t1.data.toList = Lib.decDigits xa.num.natAbs) (ht2 : t2.data.toList = Lib.decDigits xa.den) (h1 : ¬ 200 < t1.size) (h2 : ¬ 200 < t2.size) (t : ByteArray) (hx : t.data.toList = RatN.qdec xa) (ht : Tab w) :
    Calls Tryd.prog 7 #[.agg #[.bool ba, .slice Aa na ca, .slice Ba ma da]] w (BoolEnd true w) := by
  have HT := Lib.hid ht
  clear ht
  have hp : ∀ w, Calls Tryd.prog 27 #[.string t] w (PQEnd xa w) := fun w => qparse_text xa t w hx (by rw [← ht1]; simpa using h1) (by rw [← ht2]; simpa using h2)
  have HT1 := Lib.hid ht1
  have HT2 := Lib.hid ht2
  have HX := Lib.hid hx
  have HP := Lib.hid hp
  clear ht1 ht2 hx hp
  have B0 := below_a1 w (.cells #[.bool ba, .slice Aa na ca, .slice Ba ma da] 27)
  have ha := ha.below B0
  have ka := (Bq.new w (w.heap.size) (by simp) (.bool ba) (.slice Aa na ca) (.slice Ba ma da))
  go_enter Tryd.func7, Tryd.ntmps7
  have ka_0 := ka.c0
  have ka_1 := ka.c1
  have ka_2 := ka.c2
  go_wp2_with fail
  refine (light_yes ba Aa na ca Ba ma da _ _ (by omega) (by omega)).mono ?_
  clear ka_0 ka_1 ka_2
  rintro e w1 ⟨rfl, bb⟩
  have ha := ha.below bb
  have ka := ka.below bb
  have B0 := B0.trans (bb.mono B0.size)
  clear bb
  have ka_0 := ka.c0
  have ka_1 := ka.c1
  have ka_2 := ka.c2
  go_wp2_with fail
  refine (qnorm_q ha (by omega) (by omega)).mono ?_
  clear ka_0 ka_1 ka_2
  rintro e w2 ⟨bx, Ax, nx, cx, Bx, mx, dx, rfl, zx, bb⟩
  have ha := ha.below bb
  have ka := ka.below bb
  have B0 := B0.trans (bb.mono B0.size)
  clear bb
  have ha := ha.below (below_alloc w2 (.cells #[.bool bx, .slice Ax nx cx, .slice Bx mx dx] 27))
  have ka := ka.below (below_alloc w2 (.cells #[.bool bx, .slice Ax nx cx, .slice Bx mx dx] 27))
  have zx := zx.below (below_alloc w2 (.cells #[.bool bx, .slice Ax nx cx, .slice Bx mx dx] 27))
  have kx := Bq.new w2 (w2.heap.size) (by simp) (.bool bx) (.slice Ax nx cx) (.slice Bx mx dx)
  have B0 := B0.trans ((below_alloc w2 (.cells #[.bool bx, .slice Ax nx cx, .slice Bx mx dx] 27)).mono B0.size)
  obtain ⟨mx, nx', hnx, _⟩ := zx.parts.1.parts
  have hzn : xa.num.natAbs = mx := by rw [hnx]; exact RatN.sgn_abs _ _
  have HT1' : Hid (t1.data.toList = Lib.decDigits mx) := by show _ = _; rw [← hzn]; exact HT1.out
  clear hnx hzn
  have dx' := zx.parts.2
  have ka_0 := ka.c0
  have ka_1 := ka.c1
  have ka_2 := ka.c2
  have kx_0 := kx.c0
  have kx_1 := kx.c1
  have kx_2 := kx.c2
  go_wp2_with fail
  refine (rtext_n nx'.nm (by omega) t1 HT1'.out).mono ?_
  clear ka_0 ka_1 ka_2 kx_0 kx_1 kx_2
  rintro e w3 ⟨rfl, bb⟩
  have ha := ha.below bb
  have ka := ka.below bb
  have zx := zx.below bb
  have kx := kx.below bb
  have nx' := nx'.below bb
  have dx' := dx'.below bb
  have B0 := B0.trans (bb.mono B0.size)
  clear bb
  have ka_0 := ka.c0
  have ka_1 := ka.c1
  have ka_2 := ka.c2
  have kx_0 := kx.c0
  have kx_1 := kx.c1
  have kx_2 := kx.c2
  go_wp2_with fail
  refine (rtext_n dx'.nm (by omega) t2 HT2.out).mono ?_
  clear ka_0 ka_1 ka_2 kx_0 kx_1 kx_2
  rintro e w4 ⟨rfl, bb⟩
  have ha := ha.below bb
  have ka := ka.below bb
  have zx := zx.below bb
  have kx := kx.below bb
  have dx' := dx'.below bb
  have B0 := B0.trans (bb.mono B0.size)
  clear bb
  have ka_0 := ka.c0
  have ka_1 := ka.c1
  have ka_2 := ka.c2
  have kx_0 := kx.c0
  have kx_1 := kx.c1
  have kx_2 := kx.c2
  go_wp2_with fail
  refine (qtext_q ha (by omega) (by omega) (HT.out.below B0) t HX.out).mono ?_
  clear ka_0 ka_1 ka_2 kx_0 kx_1 kx_2
  rintro e w5 ⟨rfl, bb⟩
  have ha := ha.below bb
  have ka := ka.below bb
  have zx := zx.below bb
  have kx := kx.below bb
  have B0 := B0.trans (bb.mono B0.size)
  clear bb
  have ka_0 := ka.c0
  have ka_1 := ka.c1
  have ka_2 := ka.c2
  have kx_0 := kx.c0
  have kx_1 := kx.c1
  have kx_2 := kx.c2
  go_wp2_with fail
  refine (HP.out _).mono ?_
  clear ka_0 ka_1 ka_2 kx_0 kx_1 kx_2
  rintro e w6 ⟨be, Ae, ne, ce, Be, me, de, rfl, ze, bb⟩
  have ha := ha.below bb
  have ka := ka.below bb
  have zx := zx.below bb
  have kx := kx.below bb
  have B0 := B0.trans (bb.mono B0.size)
  clear bb
  have ha := ha.below (below_alloc w6 (.cells #[.bool be, .slice Ae ne ce, .slice Be me de] 27))
  have ka := ka.below (below_alloc w6 (.cells #[.bool be, .slice Ae ne ce, .slice Be me de] 27))
  have zx := zx.below (below_alloc w6 (.cells #[.bool be, .slice Ae ne ce, .slice Be me de] 27))
  have kx := kx.below (below_alloc w6 (.cells #[.bool be, .slice Ae ne ce, .slice Be me de] 27))
  have ze := ze.below (below_alloc w6 (.cells #[.bool be, .slice Ae ne ce, .slice Be me de] 27))
  have ke := Bq.new w6 (w6.heap.size) (by simp) (.bool be) (.slice Ae ne ce) (.slice Be me de)
  have B0 := B0.trans ((below_alloc w6 (.cells #[.bool be, .slice Ae ne ce, .slice Be me de] 27)).mono B0.size)
  have ka_0 := ka.c0
  have ka_1 := ka.c1
  have ka_2 := ka.c2
  have kx_0 := kx.c0
  have kx_1 := kx.c1
  have kx_2 := kx.c2
  have ke_0 := ke.c0
  have ke_1 := ke.c1
  have ke_2 := ke.c2
  go_wp2_with fail
  refine (rsame_q ze zx rfl).mono ?_
  clear ka_0 ka_1 ka_2 kx_0 kx_1 kx_2 ke_0 ke_1 ke_2
  rintro e w7 ⟨rfl, bb⟩
  have ha := ha.below bb
  have ka := ka.below bb
  have zx := zx.below bb
  have kx := kx.below bb
  have ze := ze.below bb
  have ke := ke.below bb
  have B0 := B0.trans (bb.mono B0.size)
  clear bb
  have ka_0 := ka.c0
  have ka_1 := ka.c1
  have ka_2 := ka.c2
  have kx_0 := kx.c0
  have kx_1 := kx.c1
  have kx_2 := kx.c2
  have ke_0 := ke.c0
  have ke_1 := ke.c1
  have ke_2 := ke.c2
  go_wp2_with fail
  refine (example_walk _ (HT.out.below B0)).mono ?_
  clear ka_0 ka_1 ka_2 kx_0 kx_1 kx_2 ke_0 ke_1 ke_2
  rintro e w8 ⟨rfl, bb⟩
  have ha := ha.below bb
  have ka := ka.below bb
  have zx := zx.below bb
  have kx := kx.below bb
  have ze := ze.below bb
  have ke := ke.below bb
  have B0 := B0.trans (bb.mono B0.size)
  clear bb
  go_wp2
  go_ret
  exact ⟨rfl, B0⟩
theorem ratioRoundTrip_walk {va : Value} {xa : Rat} {ka ja : Nat} (w : World) (ha : Qv w va xa ka ja) (ht : Tab w) : Calls Tryd.prog 7 #[va] w (BoolEnd true w) := by
  obtain ⟨ba, Aa, na, ca, Ba, ma, da, rfl, _, _, ha⟩ := ha.named
  by_cases la : 30 < na ∨ 30 < ma
  · exact ratioRoundTrip_long_a w la ht
  obtain ⟨t1, ht1⟩ : ∃ t : ByteArray, t.data.toList = Lib.decDigits xa.num.natAbs := ⟨⟨(Lib.decDigits xa.num.natAbs).toArray⟩, rfl⟩
  obtain ⟨t2, ht2⟩ : ∃ t : ByteArray, t.data.toList = Lib.decDigits xa.den := ⟨⟨(Lib.decDigits xa.den).toArray⟩, rfl⟩
  by_cases h1 : 200 < t1.size
  · exact ratioRoundTrip_b1 w ha (by omega) t1 t2 ht1 ht2 h1 ht
  by_cases h2 : 200 < t2.size
  · exact ratioRoundTrip_b2 w ha (by omega) t1 t2 ht1 ht2 h1 h2 ht
  exact ratioRoundTrip_ok w ha (by omega) t1 t2 ht1 ht2 h1 h2 ⟨(RatN.qdec xa).toArray⟩ rfl ht
end Go.Proofs.YtfdildganfjahaaDoor
