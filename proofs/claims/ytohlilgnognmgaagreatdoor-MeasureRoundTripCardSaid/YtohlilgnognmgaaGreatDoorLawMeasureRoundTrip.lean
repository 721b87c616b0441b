/-
  The walk of garmentlaw04.MeasureRoundTrip: it returns true, whatever the input.
-/
import Derived.Test.YtohlilgnognmgaaGreatDoorMeaU
namespace Go.Proofs.YtohlilgnognmgaaGreatDoor
open Go.RowKit Mea
attribute [local go_sem ↓] Go.wp_at_zero Go.wp_at_succ
set_option linter.unusedVariables false

set_option maxRecDepth 20000 in
set_option maxHeartbeats 8000000 in
theorem measureRoundTrip_long_a {ba : Bool} {Aa : Option Addr} {na ca : Nat} {Ba : Option Addr} {ma da : Nat} (s : ByteArray) (w : World) (hl : 24 < na ∨ 24 < ma) (ht : Tab w) :
    Calls Tryz.prog 4 #[.agg #[.bool ba, .slice Aa na ca, .slice Ba ma da], .string s] w (BoolEnd true w) := by
  have HT := Lib.hid ht
  clear ht
  have B0 := below_a1 w (.cells #[.bool ba, .slice Aa na ca, .slice Ba ma da] 27)
  have ka := (Bq.new w (w.heap.size) (by simp) (.bool ba) (.slice Aa na ca) (.slice Ba ma da))
  go_enter Tryz.func4, Tryz.ntmps4
  have ka_0 := ka.c0
  have ka_1 := ka.c1
  have ka_2 := ka.c2
  go_wp2_with fail
  refine (light_not ba Aa na ca Ba ma da _ _ (by omega)).mono ?_
  clear ka_0 ka_1 ka_2
  rintro e w1 ⟨rfl, bb⟩
  have ka := ka.below bb
  have B0 := B0.trans (bb.mono B0.size)
  clear bb
  have ka_0 := ka.c0
  have ka_1 := ka.c1
  have ka_2 := ka.c2
  go_wp2_with fail
  refine (alive_walk _ (HT.out.below B0)).mono ?_
  clear ka_0 ka_1 ka_2
  rintro e w2 ⟨rfl, bb⟩
  have ka := ka.below bb
  have B0 := B0.trans (bb.mono B0.size)
  clear bb
  go_wp2
  go_ret
  exact ⟨rfl, B0⟩
set_option maxRecDepth 20000 in
set_option maxHeartbeats 8000000 in
theorem measureRoundTrip_long_s {ba : Bool} {Aa : Option Addr} {na ca : Nat} {Ba : Option Addr} {ma da : Nat} (s : ByteArray) (w : World) (h1 : na ≤ 24 ∧ ma ≤ 24) (hs : (60 : Int) < (s.size : Int)) (ht : Tab w) :
    Calls Tryz.prog 4 #[.agg #[.bool ba, .slice Aa na ca, .slice Ba ma da], .string s] w (BoolEnd true w) := by
  have HT := Lib.hid ht
  clear ht
  have B0 := below_a1 w (.cells #[.bool ba, .slice Aa na ca, .slice Ba ma da] 27)
  have ka := (Bq.new w (w.heap.size) (by simp) (.bool ba) (.slice Aa na ca) (.slice Ba ma da))
  go_enter Tryz.func4, Tryz.ntmps4
  have ka_0 := ka.c0
  have ka_1 := ka.c1
  have ka_2 := ka.c2
  go_wp2_with fail
  refine (light_yes ba Aa na ca Ba ma da _ _ (by omega) (by omega)).mono ?_
  clear ka_0 ka_1 ka_2
  rintro e w1 ⟨rfl, bb⟩
  have ka := ka.below bb
  have B0 := B0.trans (bb.mono B0.size)
  clear bb
  have ka_0 := ka.c0
  have ka_1 := ka.c1
  have ka_2 := ka.c2
  go_wp2_with fail
  refine (alive_walk _ (HT.out.below B0)).mono ?_
  clear ka_0 ka_1 ka_2
  rintro e w2 ⟨rfl, bb⟩
  have ka := ka.below bb
  have B0 := B0.trans (bb.mono B0.size)
  clear bb
  go_wp2
  go_ret
  exact ⟨rfl, B0⟩
set_option maxRecDepth 20000 in
set_option maxHeartbeats 8000000 in
theorem measureRoundTrip_ok_long {ba : Bool} {Aa : Option Addr} {na ca : Nat} {Ba : Option Addr} {ma da : Nat} {xa : Rat} (s : ByteArray) (w : World) (ha : Qv w (.agg #[.bool ba, .slice Aa na ca, .slice Ba ma da]) xa na ma) (h1 : na ≤ 24 ∧ ma ≤ 24) (hs : ¬ (60 : Int) < (s.size : Int)) (t : List UInt8) (hf : fMea xa = some t) (hg : (24 : Int) < (s.size : Int)) (ht : Tab w) :
    Calls Tryz.prog 4 #[.agg #[.bool ba, .slice Aa na ca, .slice Ba ma da], .string s] w (BoolEnd true w) := by
  have HT := Lib.hid ht
  clear ht
  have hs' : decide ((60 : Int) < (s.size : Int)) = false := decide_eq_false hs
  obtain ⟨hr, hl⟩ := fMea_reads xa t hf
  have HF := Lib.hid hf
  have HR := Lib.hid hr
  have HL := Lib.hid hl
  have HG := Lib.hid hg
  clear hf hr hl hg
  have B0 := below_a1 w (.cells #[.bool ba, .slice Aa na ca, .slice Ba ma da] 27)
  have ha := ha.below B0
  have ka := (Bq.new w (w.heap.size) (by simp) (.bool ba) (.slice Aa na ca) (.slice Ba ma da))
  go_enter Tryz.func4, Tryz.ntmps4
  have ka_0 := ka.c0
  have ka_1 := ka.c1
  have ka_2 := ka.c2
  go_wp2_with fail
  refine (light_yes ba Aa na ca Ba ma da _ _ (by omega) (by omega)).mono ?_
  clear ka_0 ka_1 ka_2
  rintro e w1 ⟨rfl, bb⟩
  have ha := ha.below bb
  have ka := ka.below bb
  have B0 := B0.trans (bb.mono B0.size)
  clear bb
  have ka_0 := ka.c0
  have ka_1 := ka.c1
  have ka_2 := ka.c2
  go_wp2_with fail
  refine (mfmt_ok ha (by omega) (by omega) (HT.out.below B0) t HF.out).mono ?_
  clear ka_0 ka_1 ka_2
  rintro e w2 ⟨rfl, bb⟩
  have ha := ha.below bb
  have ka := ka.below bb
  have B0 := B0.trans (bb.mono B0.size)
  clear bb
  have ka_0 := ka.c0
  have ka_1 := ka.c1
  have ka_2 := ka.c2
  go_wp2_with fail
  refine (mparse_yes (ofL t) _ (by rw [ofL_size]; have := HL.out; omega) xa HR.out).mono ?_
  clear ka_0 ka_1 ka_2
  rintro e w3 ⟨b1, A1, n1, c1, B1, m1, d1, rfl, z1, bb⟩
  have ha := ha.below bb
  have ka := ka.below bb
  have B0 := B0.trans (bb.mono B0.size)
  clear bb
  have ha := ha.below (below_alloc w3 (.cells #[.bool b1, .slice A1 n1 c1, .slice B1 m1 d1] 27))
  have ka := ka.below (below_alloc w3 (.cells #[.bool b1, .slice A1 n1 c1, .slice B1 m1 d1] 27))
  have z1 := z1.below (below_alloc w3 (.cells #[.bool b1, .slice A1 n1 c1, .slice B1 m1 d1] 27))
  have k1 := Bq.new w3 (w3.heap.size) (by simp) (.bool b1) (.slice A1 n1 c1) (.slice B1 m1 d1)
  have B0 := B0.trans ((below_alloc w3 (.cells #[.bool b1, .slice A1 n1 c1, .slice B1 m1 d1] 27)).mono B0.size)
  have ka_0 := ka.c0
  have ka_1 := ka.c1
  have ka_2 := ka.c2
  have k1_0 := k1.c0
  have k1_1 := k1.c1
  have k1_2 := k1.c2
  go_wp2_with fail
  refine (qcmp_q z1.qv ha (by omega) (by omega) (by omega) (by omega) 0 (RatN.cmpQ_self _)).mono ?_
  clear ka_0 ka_1 ka_2 k1_0 k1_1 k1_2
  rintro e w4 ⟨rfl, bb⟩
  have ha := ha.below bb
  have ka := ka.below bb
  have z1 := z1.below bb
  have k1 := k1.below bb
  have B0 := B0.trans (bb.mono B0.size)
  clear bb
  have ka_0 := ka.c0
  have ka_1 := ka.c1
  have ka_2 := ka.c2
  go_wp2_with fail
  refine (mparse_long s _ HG.out).mono ?_
  clear ka_0 ka_1 ka_2
  rintro e w5 ⟨rfl, bb⟩
  have ha := ha.below bb
  have ka := ka.below bb
  have B0 := B0.trans (bb.mono B0.size)
  clear bb
  have ha := ha.below (below_alloc w5 (.cells #[.bool false, .slice none 0 0, .slice none 0 0] 27))
  have ka := ka.below (below_alloc w5 (.cells #[.bool false, .slice none 0 0, .slice none 0 0] 27))
  have k2 := Bq.new w5 (w5.heap.size) (by simp) (.bool false) (.slice none 0 0) (.slice none 0 0)
  have B0 := B0.trans ((below_alloc w5 (.cells #[.bool false, .slice none 0 0, .slice none 0 0] 27)).mono B0.size)
  have ka_0 := ka.c0
  have ka_1 := ka.c1
  have ka_2 := ka.c2
  go_wp2_with fail
  refine (alive_walk _ (HT.out.below B0)).mono ?_
  clear ka_0 ka_1 ka_2
  rintro e w6 ⟨rfl, bb⟩
  have ha := ha.below bb
  have ka := ka.below bb
  have B0 := B0.trans (bb.mono B0.size)
  clear bb
  go_wp2
  go_ret
  exact ⟨rfl, B0⟩
set_option maxRecDepth 20000 in
set_option maxHeartbeats 8000000 in
theorem measureRoundTrip_ok_none {ba : Bool} {Aa : Option Addr} {na ca : Nat} {Ba : Option Addr} {ma da : Nat} {xa : Rat} (s : ByteArray) (w : World) (ha : Qv w (.agg #[.bool ba, .slice Aa na ca, .slice Ba ma da]) xa na ma) (h1 : na ≤ 24 ∧ ma ≤ 24) (hs : ¬ (60 : Int) < (s.size : Int)) (t : List UInt8) (hf : fMea xa = some t) (hg : s.size ≤ 24) (hp : pMea s.data.toList = none) (ht : Tab w) :
    Calls Tryz.prog 4 #[.agg #[.bool ba, .slice Aa na ca, .slice Ba ma da], .string s] w (BoolEnd true w) := by
  have HT := Lib.hid ht
  clear ht
  have hs' : decide ((60 : Int) < (s.size : Int)) = false := decide_eq_false hs
  obtain ⟨hr, hl⟩ := fMea_reads xa t hf
  have HF := Lib.hid hf
  have HR := Lib.hid hr
  have HL := Lib.hid hl
  have HG := Lib.hid hg
  have HP := Lib.hid hp
  clear hf hr hl hg hp
  have B0 := below_a1 w (.cells #[.bool ba, .slice Aa na ca, .slice Ba ma da] 27)
  have ha := ha.below B0
  have ka := (Bq.new w (w.heap.size) (by simp) (.bool ba) (.slice Aa na ca) (.slice Ba ma da))
  go_enter Tryz.func4, Tryz.ntmps4
  have ka_0 := ka.c0
  have ka_1 := ka.c1
  have ka_2 := ka.c2
  go_wp2_with fail
  refine (light_yes ba Aa na ca Ba ma da _ _ (by omega) (by omega)).mono ?_
  clear ka_0 ka_1 ka_2
  rintro e w1 ⟨rfl, bb⟩
  have ha := ha.below bb
  have ka := ka.below bb
  have B0 := B0.trans (bb.mono B0.size)
  clear bb
  have ka_0 := ka.c0
  have ka_1 := ka.c1
  have ka_2 := ka.c2
  go_wp2_with fail
  refine (mfmt_ok ha (by omega) (by omega) (HT.out.below B0) t HF.out).mono ?_
  clear ka_0 ka_1 ka_2
  rintro e w2 ⟨rfl, bb⟩
  have ha := ha.below bb
  have ka := ka.below bb
  have B0 := B0.trans (bb.mono B0.size)
  clear bb
  have ka_0 := ka.c0
  have ka_1 := ka.c1
  have ka_2 := ka.c2
  go_wp2_with fail
  refine (mparse_yes (ofL t) _ (by rw [ofL_size]; have := HL.out; omega) xa HR.out).mono ?_
  clear ka_0 ka_1 ka_2
  rintro e w3 ⟨b1, A1, n1, c1, B1, m1, d1, rfl, z1, bb⟩
  have ha := ha.below bb
  have ka := ka.below bb
  have B0 := B0.trans (bb.mono B0.size)
  clear bb
  have ha := ha.below (below_alloc w3 (.cells #[.bool b1, .slice A1 n1 c1, .slice B1 m1 d1] 27))
  have ka := ka.below (below_alloc w3 (.cells #[.bool b1, .slice A1 n1 c1, .slice B1 m1 d1] 27))
  have z1 := z1.below (below_alloc w3 (.cells #[.bool b1, .slice A1 n1 c1, .slice B1 m1 d1] 27))
  have k1 := Bq.new w3 (w3.heap.size) (by simp) (.bool b1) (.slice A1 n1 c1) (.slice B1 m1 d1)
  have B0 := B0.trans ((below_alloc w3 (.cells #[.bool b1, .slice A1 n1 c1, .slice B1 m1 d1] 27)).mono B0.size)
  have ka_0 := ka.c0
  have ka_1 := ka.c1
  have ka_2 := ka.c2
  have k1_0 := k1.c0
  have k1_1 := k1.c1
  have k1_2 := k1.c2
  go_wp2_with fail
  refine (qcmp_q z1.qv ha (by omega) (by omega) (by omega) (by omega) 0 (RatN.cmpQ_self _)).mono ?_
  clear ka_0 ka_1 ka_2 k1_0 k1_1 k1_2
  rintro e w4 ⟨rfl, bb⟩
  have ha := ha.below bb
  have ka := ka.below bb
  have z1 := z1.below bb
  have k1 := k1.below bb
  have B0 := B0.trans (bb.mono B0.size)
  clear bb
  have ka_0 := ka.c0
  have ka_1 := ka.c1
  have ka_2 := ka.c2
  go_wp2_with fail
  refine (mparse_no s _ HG.out HP.out).mono ?_
  clear ka_0 ka_1 ka_2
  rintro e w5 ⟨rfl, bb⟩
  have ha := ha.below bb
  have ka := ka.below bb
  have B0 := B0.trans (bb.mono B0.size)
  clear bb
  have ha := ha.below (below_alloc w5 (.cells #[.bool false, .slice none 0 0, .slice none 0 0] 27))
  have ka := ka.below (below_alloc w5 (.cells #[.bool false, .slice none 0 0, .slice none 0 0] 27))
  have k2 := Bq.new w5 (w5.heap.size) (by simp) (.bool false) (.slice none 0 0) (.slice none 0 0)
  have B0 := B0.trans ((below_alloc w5 (.cells #[.bool false, .slice none 0 0, .slice none 0 0] 27)).mono B0.size)
  have ka_0 := ka.c0
  have ka_1 := ka.c1
  have ka_2 := ka.c2
  go_wp2_with fail
  refine (alive_walk _ (HT.out.below B0)).mono ?_
  clear ka_0 ka_1 ka_2
  rintro e w6 ⟨rfl, bb⟩
  have ha := ha.below bb
  have ka := ka.below bb
  have B0 := B0.trans (bb.mono B0.size)
  clear bb
  go_wp2
  go_ret
  exact ⟨rfl, B0⟩
set_option maxRecDepth 20000 in
set_option maxHeartbeats 8000000 in
theorem measureRoundTrip_ok_fok {ba : Bool} {Aa : Option Addr} {na ca : Nat} {Ba : Option Addr} {ma da : Nat} {xa : Rat} (s : ByteArray) (w : World) (ha : Qv w (.agg #[.bool ba, .slice Aa na ca, .slice Ba ma da]) xa na ma) (h1 : na ≤ 24 ∧ ma ≤ 24) (hs : ¬ (60 : Int) < (s.size : Int)) (t : List UInt8) (hf : fMea xa = some t) (hg : s.size ≤ 24) (q : Rat) (hp : pMea s.data.toList = some q) (u : List UInt8) (hu : fMea q = some u) (ht : Tab w) :
    Calls Tryz.prog 4 #[.agg #[.bool ba, .slice Aa na ca, .slice Ba ma da], .string s] w (BoolEnd true w) := by
  have HT := Lib.hid ht
  clear ht
  have hs' : decide ((60 : Int) < (s.size : Int)) = false := decide_eq_false hs
  obtain ⟨hr, hl⟩ := fMea_reads xa t hf
  obtain ⟨hur, hul⟩ := fMea_reads q u hu
  have HF := Lib.hid hf
  have HR := Lib.hid hr
  have HL := Lib.hid hl
  have HG := Lib.hid hg
  have HP := Lib.hid hp
  have HU := Lib.hid hu
  have HUR := Lib.hid hur
  have HUL := Lib.hid hul
  clear hf hr hl hg hp hu hur hul
  have B0 := below_a1 w (.cells #[.bool ba, .slice Aa na ca, .slice Ba ma da] 27)
  have ha := ha.below B0
  have ka := (Bq.new w (w.heap.size) (by simp) (.bool ba) (.slice Aa na ca) (.slice Ba ma da))
  go_enter Tryz.func4, Tryz.ntmps4
  have ka_0 := ka.c0
  have ka_1 := ka.c1
  have ka_2 := ka.c2
  go_wp2_with fail
  refine (light_yes ba Aa na ca Ba ma da _ _ (by omega) (by omega)).mono ?_
  clear ka_0 ka_1 ka_2
  rintro e w1 ⟨rfl, bb⟩
  have ha := ha.below bb
  have ka := ka.below bb
  have B0 := B0.trans (bb.mono B0.size)
  clear bb
  have ka_0 := ka.c0
  have ka_1 := ka.c1
  have ka_2 := ka.c2
  go_wp2_with fail
  refine (mfmt_ok ha (by omega) (by omega) (HT.out.below B0) t HF.out).mono ?_
  clear ka_0 ka_1 ka_2
  rintro e w2 ⟨rfl, bb⟩
  have ha := ha.below bb
  have ka := ka.below bb
  have B0 := B0.trans (bb.mono B0.size)
  clear bb
  have ka_0 := ka.c0
  have ka_1 := ka.c1
  have ka_2 := ka.c2
  go_wp2_with fail
  refine (mparse_yes (ofL t) _ (by rw [ofL_size]; have := HL.out; omega) xa HR.out).mono ?_
  clear ka_0 ka_1 ka_2
  rintro e w3 ⟨b1, A1, n1, c1, B1, m1, d1, rfl, z1, bb⟩
  have ha := ha.below bb
  have ka := ka.below bb
  have B0 := B0.trans (bb.mono B0.size)
  clear bb
  have ha := ha.below (below_alloc w3 (.cells #[.bool b1, .slice A1 n1 c1, .slice B1 m1 d1] 27))
  have ka := ka.below (below_alloc w3 (.cells #[.bool b1, .slice A1 n1 c1, .slice B1 m1 d1] 27))
  have z1 := z1.below (below_alloc w3 (.cells #[.bool b1, .slice A1 n1 c1, .slice B1 m1 d1] 27))
  have k1 := Bq.new w3 (w3.heap.size) (by simp) (.bool b1) (.slice A1 n1 c1) (.slice B1 m1 d1)
  have B0 := B0.trans ((below_alloc w3 (.cells #[.bool b1, .slice A1 n1 c1, .slice B1 m1 d1] 27)).mono B0.size)
  have ka_0 := ka.c0
  have ka_1 := ka.c1
  have ka_2 := ka.c2
  have k1_0 := k1.c0
  have k1_1 := k1.c1
  have k1_2 := k1.c2
  go_wp2_with fail
  refine (qcmp_q z1.qv ha (by omega) (by omega) (by omega) (by omega) 0 (RatN.cmpQ_self _)).mono ?_
  clear ka_0 ka_1 ka_2 k1_0 k1_1 k1_2
  rintro e w4 ⟨rfl, bb⟩
  have ha := ha.below bb
  have ka := ka.below bb
  have z1 := z1.below bb
  have k1 := k1.below bb
  have B0 := B0.trans (bb.mono B0.size)
  clear bb
  have ka_0 := ka.c0
  have ka_1 := ka.c1
  have ka_2 := ka.c2
  go_wp2_with fail
  refine (mparse_yes s _ HG.out q HP.out).mono ?_
  clear ka_0 ka_1 ka_2
  rintro e w5 ⟨b2, A2, n2, c2, B2, m2, d2, rfl, z2, bb⟩
  have ha := ha.below bb
  have ka := ka.below bb
  have B0 := B0.trans (bb.mono B0.size)
  clear bb
  have ha := ha.below (below_alloc w5 (.cells #[.bool b2, .slice A2 n2 c2, .slice B2 m2 d2] 27))
  have ka := ka.below (below_alloc w5 (.cells #[.bool b2, .slice A2 n2 c2, .slice B2 m2 d2] 27))
  have z2 := z2.below (below_alloc w5 (.cells #[.bool b2, .slice A2 n2 c2, .slice B2 m2 d2] 27))
  have k2 := Bq.new w5 (w5.heap.size) (by simp) (.bool b2) (.slice A2 n2 c2) (.slice B2 m2 d2)
  have B0 := B0.trans ((below_alloc w5 (.cells #[.bool b2, .slice A2 n2 c2, .slice B2 m2 d2] 27)).mono B0.size)
  have ka_0 := ka.c0
  have ka_1 := ka.c1
  have ka_2 := ka.c2
  have k2_0 := k2.c0
  have k2_1 := k2.c1
  have k2_2 := k2.c2
  go_wp2_with fail
  refine (mfmt_ok z2.qv (by omega) (by omega) (HT.out.below B0) u HU.out).mono ?_
  clear ka_0 ka_1 ka_2 k2_0 k2_1 k2_2
  rintro e w6 ⟨rfl, bb⟩
  have ha := ha.below bb
  have ka := ka.below bb
  have z2 := z2.below bb
  have k2 := k2.below bb
  have B0 := B0.trans (bb.mono B0.size)
  clear bb
  have ka_0 := ka.c0
  have ka_1 := ka.c1
  have ka_2 := ka.c2
  have k2_0 := k2.c0
  have k2_1 := k2.c1
  have k2_2 := k2.c2
  go_wp2_with fail
  refine (mparse_yes (ofL u) _ (by rw [ofL_size]; have := HUL.out; omega) q HUR.out).mono ?_
  clear ka_0 ka_1 ka_2 k2_0 k2_1 k2_2
  rintro e w7 ⟨b3, A3, n3, c3, B3, m3, d3, rfl, z3, bb⟩
  have ha := ha.below bb
  have ka := ka.below bb
  have z2 := z2.below bb
  have k2 := k2.below bb
  have B0 := B0.trans (bb.mono B0.size)
  clear bb
  have ha := ha.below (below_alloc w7 (.cells #[.bool b3, .slice A3 n3 c3, .slice B3 m3 d3] 27))
  have ka := ka.below (below_alloc w7 (.cells #[.bool b3, .slice A3 n3 c3, .slice B3 m3 d3] 27))
  have z2 := z2.below (below_alloc w7 (.cells #[.bool b3, .slice A3 n3 c3, .slice B3 m3 d3] 27))
  have k2 := k2.below (below_alloc w7 (.cells #[.bool b3, .slice A3 n3 c3, .slice B3 m3 d3] 27))
  have z3 := z3.below (below_alloc w7 (.cells #[.bool b3, .slice A3 n3 c3, .slice B3 m3 d3] 27))
  have k3 := Bq.new w7 (w7.heap.size) (by simp) (.bool b3) (.slice A3 n3 c3) (.slice B3 m3 d3)
  have B0 := B0.trans ((below_alloc w7 (.cells #[.bool b3, .slice A3 n3 c3, .slice B3 m3 d3] 27)).mono B0.size)
  have ka_0 := ka.c0
  have ka_1 := ka.c1
  have ka_2 := ka.c2
  have k2_0 := k2.c0
  have k2_1 := k2.c1
  have k2_2 := k2.c2
  have k3_0 := k3.c0
  have k3_1 := k3.c1
  have k3_2 := k3.c2
  go_wp2_with fail
  refine (qcmp_q z2.qv z3.qv (by omega) (by omega) (by omega) (by omega) 0 (RatN.cmpQ_self _)).mono ?_
  clear ka_0 ka_1 ka_2 k2_0 k2_1 k2_2 k3_0 k3_1 k3_2
  rintro e w8 ⟨rfl, bb⟩
  have ha := ha.below bb
  have ka := ka.below bb
  have z2 := z2.below bb
  have k2 := k2.below bb
  have z3 := z3.below bb
  have k3 := k3.below bb
  have B0 := B0.trans (bb.mono B0.size)
  clear bb
  have ka_0 := ka.c0
  have ka_1 := ka.c1
  have ka_2 := ka.c2
  go_wp2_with fail
  refine (alive_walk _ (HT.out.below B0)).mono ?_
  clear ka_0 ka_1 ka_2
  rintro e w9 ⟨rfl, bb⟩
  have ha := ha.below bb
  have ka := ka.below bb
  have B0 := B0.trans (bb.mono B0.size)
  clear bb
  go_wp2
  go_ret
  exact ⟨rfl, B0⟩
set_option maxRecDepth 20000 in
set_option maxHeartbeats 8000000 in
theorem measureRoundTrip_ok_ferr {ba : Bool} {Aa : Option Addr} {na ca : Nat} {Ba : Option Addr} {ma da : Nat} {xa : Rat} (s : ByteArray) (w : World) (ha : Qv w (.agg #[.bool ba, .slice Aa na ca, .slice Ba ma da]) xa na ma) (h1 : na ≤ 24 ∧ ma ≤ 24) (hs : ¬ (60 : Int) < (s.size : Int)) (t : List UInt8) (hf : fMea xa = some t) (hg : s.size ≤ 24) (q : Rat) (hp : pMea s.data.toList = some q) (hu : fMea q = none) (ht : Tab w) :
    Calls Tryz.prog 4 #[.agg #[.bool ba, .slice Aa na ca, .slice Ba ma da], .string s] w (BoolEnd true w) := by
  have HT := Lib.hid ht
  clear ht
  have hs' : decide ((60 : Int) < (s.size : Int)) = false := decide_eq_false hs
  obtain ⟨hr, hl⟩ := fMea_reads xa t hf
  have HF := Lib.hid hf
  have HR := Lib.hid hr
  have HL := Lib.hid hl
  have HG := Lib.hid hg
  have HP := Lib.hid hp
  have HU := Lib.hid hu
  clear hf hr hl hg hp hu
  have B0 := below_a1 w (.cells #[.bool ba, .slice Aa na ca, .slice Ba ma da] 27)
  have ha := ha.below B0
  have ka := (Bq.new w (w.heap.size) (by simp) (.bool ba) (.slice Aa na ca) (.slice Ba ma da))
  go_enter Tryz.func4, Tryz.ntmps4
  have ka_0 := ka.c0
  have ka_1 := ka.c1
  have ka_2 := ka.c2
  go_wp2_with fail
  refine (light_yes ba Aa na ca Ba ma da _ _ (by omega) (by omega)).mono ?_
  clear ka_0 ka_1 ka_2
  rintro e w1 ⟨rfl, bb⟩
  have ha := ha.below bb
  have ka := ka.below bb
  have B0 := B0.trans (bb.mono B0.size)
  clear bb
  have ka_0 := ka.c0
  have ka_1 := ka.c1
  have ka_2 := ka.c2
  go_wp2_with fail
  refine (mfmt_ok ha (by omega) (by omega) (HT.out.below B0) t HF.out).mono ?_
  clear ka_0 ka_1 ka_2
  rintro e w2 ⟨rfl, bb⟩
  have ha := ha.below bb
  have ka := ka.below bb
  have B0 := B0.trans (bb.mono B0.size)
  clear bb
  have ka_0 := ka.c0
  have ka_1 := ka.c1
  have ka_2 := ka.c2
  go_wp2_with fail
  refine (mparse_yes (ofL t) _ (by rw [ofL_size]; have := HL.out; omega) xa HR.out).mono ?_
  clear ka_0 ka_1 ka_2
  rintro e w3 ⟨b1, A1, n1, c1, B1, m1, d1, rfl, z1, bb⟩
  have ha := ha.below bb
  have ka := ka.below bb
  have B0 := B0.trans (bb.mono B0.size)
  clear bb
  have ha := ha.below (below_alloc w3 (.cells #[.bool b1, .slice A1 n1 c1, .slice B1 m1 d1] 27))
  have ka := ka.below (below_alloc w3 (.cells #[.bool b1, .slice A1 n1 c1, .slice B1 m1 d1] 27))
  have z1 := z1.below (below_alloc w3 (.cells #[.bool b1, .slice A1 n1 c1, .slice B1 m1 d1] 27))
  have k1 := Bq.new w3 (w3.heap.size) (by simp) (.bool b1) (.slice A1 n1 c1) (.slice B1 m1 d1)
  have B0 := B0.trans ((below_alloc w3 (.cells #[.bool b1, .slice A1 n1 c1, .slice B1 m1 d1] 27)).mono B0.size)
  have ka_0 := ka.c0
  have ka_1 := ka.c1
  have ka_2 := ka.c2
  have k1_0 := k1.c0
  have k1_1 := k1.c1
  have k1_2 := k1.c2
  go_wp2_with fail
  refine (qcmp_q z1.qv ha (by omega) (by omega) (by omega) (by omega) 0 (RatN.cmpQ_self _)).mono ?_
  clear ka_0 ka_1 ka_2 k1_0 k1_1 k1_2
  rintro e w4 ⟨rfl, bb⟩
  have ha := ha.below bb
  have ka := ka.below bb
  have z1 := z1.below bb
  have k1 := k1.below bb
  have B0 := B0.trans (bb.mono B0.size)
  clear bb
  have ka_0 := ka.c0
  have ka_1 := ka.c1
  have ka_2 := ka.c2
  go_wp2_with fail
  refine (mparse_yes s _ HG.out q HP.out).mono ?_
  clear ka_0 ka_1 ka_2
  rintro e w5 ⟨b2, A2, n2, c2, B2, m2, d2, rfl, z2, bb⟩
  have ha := ha.below bb
  have ka := ka.below bb
  have B0 := B0.trans (bb.mono B0.size)
  clear bb
  have ha := ha.below (below_alloc w5 (.cells #[.bool b2, .slice A2 n2 c2, .slice B2 m2 d2] 27))
  have ka := ka.below (below_alloc w5 (.cells #[.bool b2, .slice A2 n2 c2, .slice B2 m2 d2] 27))
  have z2 := z2.below (below_alloc w5 (.cells #[.bool b2, .slice A2 n2 c2, .slice B2 m2 d2] 27))
  have k2 := Bq.new w5 (w5.heap.size) (by simp) (.bool b2) (.slice A2 n2 c2) (.slice B2 m2 d2)
  have B0 := B0.trans ((below_alloc w5 (.cells #[.bool b2, .slice A2 n2 c2, .slice B2 m2 d2] 27)).mono B0.size)
  have ka_0 := ka.c0
  have ka_1 := ka.c1
  have ka_2 := ka.c2
  have k2_0 := k2.c0
  have k2_1 := k2.c1
  have k2_2 := k2.c2
  go_wp2_with fail
  refine (mfmt_err z2.qv (by omega) (by omega) (HT.out.below B0) HU.out).mono ?_
  clear ka_0 ka_1 ka_2 k2_0 k2_1 k2_2
  rintro e w6 ⟨rfl, bb⟩
  have ha := ha.below bb
  have ka := ka.below bb
  have z2 := z2.below bb
  have k2 := k2.below bb
  have B0 := B0.trans (bb.mono B0.size)
  clear bb
  have ka_0 := ka.c0
  have ka_1 := ka.c1
  have ka_2 := ka.c2
  have k2_0 := k2.c0
  have k2_1 := k2.c1
  have k2_2 := k2.c2
  go_wp2_with fail
  refine (mparse_no ⟨#[]⟩ _ (by decide) (by decide)).mono ?_
  clear ka_0 ka_1 ka_2 k2_0 k2_1 k2_2
  rintro e w7 ⟨rfl, bb⟩
  have ha := ha.below bb
  have ka := ka.below bb
  have z2 := z2.below bb
  have k2 := k2.below bb
  have B0 := B0.trans (bb.mono B0.size)
  clear bb
  have ha := ha.below (below_alloc w7 (.cells #[.bool false, .slice none 0 0, .slice none 0 0] 27))
  have ka := ka.below (below_alloc w7 (.cells #[.bool false, .slice none 0 0, .slice none 0 0] 27))
  have z2 := z2.below (below_alloc w7 (.cells #[.bool false, .slice none 0 0, .slice none 0 0] 27))
  have k2 := k2.below (below_alloc w7 (.cells #[.bool false, .slice none 0 0, .slice none 0 0] 27))
  have k3 := Bq.new w7 (w7.heap.size) (by simp) (.bool false) (.slice none 0 0) (.slice none 0 0)
  have B0 := B0.trans ((below_alloc w7 (.cells #[.bool false, .slice none 0 0, .slice none 0 0] 27)).mono B0.size)
  have ka_0 := ka.c0
  have ka_1 := ka.c1
  have ka_2 := ka.c2
  go_wp2_with fail
  refine (alive_walk _ (HT.out.below B0)).mono ?_
  clear ka_0 ka_1 ka_2
  rintro e w8 ⟨rfl, bb⟩
  have ha := ha.below bb
  have ka := ka.below bb
  have B0 := B0.trans (bb.mono B0.size)
  clear bb
  go_wp2
  go_ret
  exact ⟨rfl, B0⟩
set_option maxRecDepth 20000 in
set_option maxHeartbeats 8000000 in
theorem measureRoundTrip_err_long {ba : Bool} {Aa : Option Addr} {na ca : Nat} {Ba : Option Addr} {ma da : Nat} {xa : Rat} (s : ByteArray) (w : World) (ha : Qv w (.agg #[.bool ba, .slice Aa na ca, .slice Ba ma da]) xa na ma) (h1 : na ≤ 24 ∧ ma ≤ 24) (hs : ¬ (60 : Int) < (s.size : Int)) (hf : fMea xa = none) (hg : (24 : Int) < (s.size : Int)) (ht : Tab w) :
    Calls Tryz.prog 4 #[.agg #[.bool ba, .slice Aa na ca, .slice Ba ma da], .string s] w (BoolEnd true w) := by
  have HT := Lib.hid ht
  clear ht
  have hs' : decide ((60 : Int) < (s.size : Int)) = false := decide_eq_false hs
  have HF := Lib.hid hf
  have HG := Lib.hid hg
  clear hf hg
  have B0 := below_a1 w (.cells #[.bool ba, .slice Aa na ca, .slice Ba ma da] 27)
  have ha := ha.below B0
  have ka := (Bq.new w (w.heap.size) (by simp) (.bool ba) (.slice Aa na ca) (.slice Ba ma da))
  go_enter Tryz.func4, Tryz.ntmps4
  have ka_0 := ka.c0
  have ka_1 := ka.c1
  have ka_2 := ka.c2
  go_wp2_with fail
  refine (light_yes ba Aa na ca Ba ma da _ _ (by omega) (by omega)).mono ?_
  clear ka_0 ka_1 ka_2
  rintro e w1 ⟨rfl, bb⟩
  have ha := ha.below bb
  have ka := ka.below bb
  have B0 := B0.trans (bb.mono B0.size)
  clear bb
  have ka_0 := ka.c0
  have ka_1 := ka.c1
  have ka_2 := ka.c2
  go_wp2_with fail
  refine (mfmt_err ha (by omega) (by omega) (HT.out.below B0) HF.out).mono ?_
  clear ka_0 ka_1 ka_2
  rintro e w2 ⟨rfl, bb⟩
  have ha := ha.below bb
  have ka := ka.below bb
  have B0 := B0.trans (bb.mono B0.size)
  clear bb
  have ka_0 := ka.c0
  have ka_1 := ka.c1
  have ka_2 := ka.c2
  go_wp2_with fail
  refine (mparse_no ⟨#[]⟩ _ (by decide) (by decide)).mono ?_
  clear ka_0 ka_1 ka_2
  rintro e w3 ⟨rfl, bb⟩
  have ha := ha.below bb
  have ka := ka.below bb
  have B0 := B0.trans (bb.mono B0.size)
  clear bb
  have ha := ha.below (below_alloc w3 (.cells #[.bool false, .slice none 0 0, .slice none 0 0] 27))
  have ka := ka.below (below_alloc w3 (.cells #[.bool false, .slice none 0 0, .slice none 0 0] 27))
  have k1 := Bq.new w3 (w3.heap.size) (by simp) (.bool false) (.slice none 0 0) (.slice none 0 0)
  have B0 := B0.trans ((below_alloc w3 (.cells #[.bool false, .slice none 0 0, .slice none 0 0] 27)).mono B0.size)
  have ka_0 := ka.c0
  have ka_1 := ka.c1
  have ka_2 := ka.c2
  go_wp2_with fail
  refine (mparse_long s _ HG.out).mono ?_
  clear ka_0 ka_1 ka_2
  rintro e w4 ⟨rfl, bb⟩
  have ha := ha.below bb
  have ka := ka.below bb
  have B0 := B0.trans (bb.mono B0.size)
  clear bb
  have ha := ha.below (below_alloc w4 (.cells #[.bool false, .slice none 0 0, .slice none 0 0] 27))
  have ka := ka.below (below_alloc w4 (.cells #[.bool false, .slice none 0 0, .slice none 0 0] 27))
  have k2 := Bq.new w4 (w4.heap.size) (by simp) (.bool false) (.slice none 0 0) (.slice none 0 0)
  have B0 := B0.trans ((below_alloc w4 (.cells #[.bool false, .slice none 0 0, .slice none 0 0] 27)).mono B0.size)
  have ka_0 := ka.c0
  have ka_1 := ka.c1
  have ka_2 := ka.c2
  go_wp2_with fail
  refine (alive_walk _ (HT.out.below B0)).mono ?_
  clear ka_0 ka_1 ka_2
  rintro e w5 ⟨rfl, bb⟩
  have ha := ha.below bb
  have ka := ka.below bb
  have B0 := B0.trans (bb.mono B0.size)
  clear bb
  go_wp2
  go_ret
  exact ⟨rfl, B0⟩
set_option maxRecDepth 20000 in
set_option maxHeartbeats 8000000 in
theorem measureRoundTrip_err_none {ba : Bool} {Aa : Option Addr} {na ca : Nat} {Ba : Option Addr} {ma da : Nat} {xa : Rat} (s : ByteArray) (w : World) (ha : Qv w (.agg #[.bool ba, .slice Aa na ca, .slice Ba ma da]) xa na ma) (h1 : na ≤ 24 ∧ ma ≤ 24) (hs : ¬ (60 : Int) < (s.size : Int)) (hf : fMea xa = none) (hg : s.size ≤ 24) (hp : pMea s.data.toList = none) (ht : Tab w) :
    Calls Tryz.prog 4 #[.agg #[.bool ba, .slice Aa na ca, .slice Ba ma da], .string s] w (BoolEnd true w) := by
  have HT := Lib.hid ht
  clear ht
  have hs' : decide ((60 : Int) < (s.size : Int)) = false := decide_eq_false hs
  have HF := Lib.hid hf
  have HG := Lib.hid hg
  have HP := Lib.hid hp
  clear hf hg hp
  have B0 := below_a1 w (.cells #[.bool ba, .slice Aa na ca, .slice Ba ma da] 27)
  have ha := ha.below B0
  have ka := (Bq.new w (w.heap.size) (by simp) (.bool ba) (.slice Aa na ca) (.slice Ba ma da))
  go_enter Tryz.func4, Tryz.ntmps4
  have ka_0 := ka.c0
  have ka_1 := ka.c1
  have ka_2 := ka.c2
  go_wp2_with fail
  refine (light_yes ba Aa na ca Ba ma da _ _ (by omega) (by omega)).mono ?_
  clear ka_0 ka_1 ka_2
  rintro e w1 ⟨rfl, bb⟩
  have ha := ha.below bb
  have ka := ka.below bb
  have B0 := B0.trans (bb.mono B0.size)
  clear bb
  have ka_0 := ka.c0
  have ka_1 := ka.c1
  have ka_2 := ka.c2
  go_wp2_with fail
  refine (mfmt_err ha (by omega) (by omega) (HT.out.below B0) HF.out).mono ?_
  clear ka_0 ka_1 ka_2
  rintro e w2 ⟨rfl, bb⟩
  have ha := ha.below bb
  have ka := ka.below bb
  have B0 := B0.trans (bb.mono B0.size)
  clear bb
  have ka_0 := ka.c0
  have ka_1 := ka.c1
  have ka_2 := ka.c2
  go_wp2_with fail
  refine (mparse_no ⟨#[]⟩ _ (by decide) (by decide)).mono ?_
  clear ka_0 ka_1 ka_2
  rintro e w3 ⟨rfl, bb⟩
  have ha := ha.below bb
  have ka := ka.below bb
  have B0 := B0.trans (bb.mono B0.size)
  clear bb
  have ha := ha.below (below_alloc w3 (.cells #[.bool false, .slice none 0 0, .slice none 0 0] 27))
  have ka := ka.below (below_alloc w3 (.cells #[.bool false, .slice none 0 0, .slice none 0 0] 27))
  have k1 := Bq.new w3 (w3.heap.size) (by simp) (.bool false) (.slice none 0 0) (.slice none 0 0)
  have B0 := B0.trans ((below_alloc w3 (.cells #[.bool false, .slice none 0 0, .slice none 0 0] 27)).mono B0.size)
  have ka_0 := ka.c0
  have ka_1 := ka.c1
  have ka_2 := ka.c2
  go_wp2_with fail
  refine (mparse_no s _ HG.out HP.out).mono ?_
  clear ka_0 ka_1 ka_2
  rintro e w4 ⟨rfl, bb⟩
  have ha := ha.below bb
  have ka := ka.below bb
  have B0 := B0.trans (bb.mono B0.size)
  clear bb
  have ha := ha.below (below_alloc w4 (.cells #[.bool false, .slice none 0 0, .slice none 0 0] 27))
  have ka := ka.below (below_alloc w4 (.cells #[.bool false, .slice none 0 0, .slice none 0 0] 27))
  have k2 := Bq.new w4 (w4.heap.size) (by simp) (.bool false) (.slice none 0 0) (.slice none 0 0)
  have B0 := B0.trans ((below_alloc w4 (.cells #[.bool false, .slice none 0 0, .slice none 0 0] 27)).mono B0.size)
  have ka_0 := ka.c0
  have ka_1 := ka.c1
  have ka_2 := ka.c2
  go_wp2_with fail
  refine (alive_walk _ (HT.out.below B0)).mono ?_
  clear ka_0 ka_1 ka_2
  rintro e w5 ⟨rfl, bb⟩
  have ha := ha.below bb
  have ka := ka.below bb
  have B0 := B0.trans (bb.mono B0.size)
  clear bb
  go_wp2
  go_ret
  exact ⟨rfl, B0⟩
set_option maxRecDepth 20000 in
set_option maxHeartbeats 8000000 in
theorem measureRoundTrip_err_fok {ba : Bool} {Aa : Option Addr} {na ca : Nat} {Ba : Option Addr} {ma da : Nat} {xa : Rat} (s : ByteArray) (w : World) (ha : Qv w (.agg #[.bool ba, .slice Aa na ca, .slice Ba ma da]) xa na ma) (h1 : na ≤ 24 ∧ ma ≤ 24) (hs : ¬ (60 : Int) < (s.size : Int)) (hf : fMea xa = none) (hg : s.size ≤ 24) (q : Rat) (hp : pMea s.data.toList = some q) (u : List UInt8) (hu : fMea q = some u) (ht : Tab w) :
    Calls Tryz.prog 4 #[.agg #[.bool ba, .slice Aa na ca, .slice Ba ma da], .string s] w (BoolEnd true w) := by
  have HT := Lib.hid ht
  clear ht
  have hs' : decide ((60 : Int) < (s.size : Int)) = false := decide_eq_false hs
  obtain ⟨hur, hul⟩ := fMea_reads q u hu
  have HF := Lib.hid hf
  have HG := Lib.hid hg
  have HP := Lib.hid hp
  have HU := Lib.hid hu
  have HUR := Lib.hid hur
  have HUL := Lib.hid hul
  clear hf hg hp hu hur hul
  have B0 := below_a1 w (.cells #[.bool ba, .slice Aa na ca, .slice Ba ma da] 27)
  have ha := ha.below B0
  have ka := (Bq.new w (w.heap.size) (by simp) (.bool ba) (.slice Aa na ca) (.slice Ba ma da))
  go_enter Tryz.func4, Tryz.ntmps4
  have ka_0 := ka.c0
  have ka_1 := ka.c1
  have ka_2 := ka.c2
  go_wp2_with fail
  refine (light_yes ba Aa na ca Ba ma da _ _ (by omega) (by omega)).mono ?_
  clear ka_0 ka_1 ka_2
  rintro e w1 ⟨rfl, bb⟩
  have ha := ha.below bb
  have ka := ka.below bb
  have B0 := B0.trans (bb.mono B0.size)
  clear bb
  have ka_0 := ka.c0
  have ka_1 := ka.c1
  have ka_2 := ka.c2
  go_wp2_with fail
  refine (mfmt_err ha (by omega) (by omega) (HT.out.below B0) HF.out).mono ?_
  clear ka_0 ka_1 ka_2
  rintro e w2 ⟨rfl, bb⟩
  have ha := ha.below bb
  have ka := ka.below bb
  have B0 := B0.trans (bb.mono B0.size)
  clear bb
  have ka_0 := ka.c0
  have ka_1 := ka.c1
  have ka_2 := ka.c2
  go_wp2_with fail
  refine (mparse_no ⟨#[]⟩ _ (by decide) (by decide)).mono ?_
  clear ka_0 ka_1 ka_2
  rintro e w3 ⟨rfl, bb⟩
  have ha := ha.below bb
  have ka := ka.below bb
  have B0 := B0.trans (bb.mono B0.size)
  clear bb
  have ha := ha.below (below_alloc w3 (.cells #[.bool false, .slice none 0 0, .slice none 0 0] 27))
  have ka := ka.below (below_alloc w3 (.cells #[.bool false, .slice none 0 0, .slice none 0 0] 27))
  have k1 := Bq.new w3 (w3.heap.size) (by simp) (.bool false) (.slice none 0 0) (.slice none 0 0)
  have B0 := B0.trans ((below_alloc w3 (.cells #[.bool false, .slice none 0 0, .slice none 0 0] 27)).mono B0.size)
  have ka_0 := ka.c0
  have ka_1 := ka.c1
  have ka_2 := ka.c2
  go_wp2_with fail
  refine (mparse_yes s _ HG.out q HP.out).mono ?_
  clear ka_0 ka_1 ka_2
  rintro e w4 ⟨b2, A2, n2, c2, B2, m2, d2, rfl, z2, bb⟩
  have ha := ha.below bb
  have ka := ka.below bb
  have B0 := B0.trans (bb.mono B0.size)
  clear bb
  have ha := ha.below (below_alloc w4 (.cells #[.bool b2, .slice A2 n2 c2, .slice B2 m2 d2] 27))
  have ka := ka.below (below_alloc w4 (.cells #[.bool b2, .slice A2 n2 c2, .slice B2 m2 d2] 27))
  have z2 := z2.below (below_alloc w4 (.cells #[.bool b2, .slice A2 n2 c2, .slice B2 m2 d2] 27))
  have k2 := Bq.new w4 (w4.heap.size) (by simp) (.bool b2) (.slice A2 n2 c2) (.slice B2 m2 d2)
  have B0 := B0.trans ((below_alloc w4 (.cells #[.bool b2, .slice A2 n2 c2, .slice B2 m2 d2] 27)).mono B0.size)
  have ka_0 := ka.c0
  have ka_1 := ka.c1
  have ka_2 := ka.c2
  have k2_0 := k2.c0
  have k2_1 := k2.c1
  have k2_2 := k2.c2
  go_wp2_with fail
  refine (mfmt_ok z2.qv (by omega) (by omega) (HT.out.below B0) u HU.out).mono ?_
  clear ka_0 ka_1 ka_2 k2_0 k2_1 k2_2
  rintro e w5 ⟨rfl, bb⟩
  have ha := ha.below bb
  have ka := ka.below bb
  have z2 := z2.below bb
  have k2 := k2.below bb
  have B0 := B0.trans (bb.mono B0.size)
  clear bb
  have ka_0 := ka.c0
  have ka_1 := ka.c1
  have ka_2 := ka.c2
  have k2_0 := k2.c0
  have k2_1 := k2.c1
  have k2_2 := k2.c2
  go_wp2_with fail
  refine (mparse_yes (ofL u) _ (by rw [ofL_size]; have := HUL.out; omega) q HUR.out).mono ?_
  clear ka_0 ka_1 ka_2 k2_0 k2_1 k2_2
  rintro e w6 ⟨b3, A3, n3, c3, B3, m3, d3, rfl, z3, bb⟩
  have ha := ha.below bb
  have ka := ka.below bb
  have z2 := z2.below bb
  have k2 := k2.below bb
  have B0 := B0.trans (bb.mono B0.size)
  clear bb
  have ha := ha.below (below_alloc w6 (.cells #[.bool b3, .slice A3 n3 c3, .slice B3 m3 d3] 27))
  have ka := ka.below (below_alloc w6 (.cells #[.bool b3, .slice A3 n3 c3, .slice B3 m3 d3] 27))
  have z2 := z2.below (below_alloc w6 (.cells #[.bool b3, .slice A3 n3 c3, .slice B3 m3 d3] 27))
  have k2 := k2.below (below_alloc w6 (.cells #[.bool b3, .slice A3 n3 c3, .slice B3 m3 d3] 27))
  have z3 := z3.below (below_alloc w6 (.cells #[.bool b3, .slice A3 n3 c3, .slice B3 m3 d3] 27))
  have k3 := Bq.new w6 (w6.heap.size) (by simp) (.bool b3) (.slice A3 n3 c3) (.slice B3 m3 d3)
  have B0 := B0.trans ((below_alloc w6 (.cells #[.bool b3, .slice A3 n3 c3, .slice B3 m3 d3] 27)).mono B0.size)
  have ka_0 := ka.c0
  have ka_1 := ka.c1
  have ka_2 := ka.c2
  have k2_0 := k2.c0
  have k2_1 := k2.c1
  have k2_2 := k2.c2
  have k3_0 := k3.c0
  have k3_1 := k3.c1
  have k3_2 := k3.c2
  go_wp2_with fail
  refine (qcmp_q z2.qv z3.qv (by omega) (by omega) (by omega) (by omega) 0 (RatN.cmpQ_self _)).mono ?_
  clear ka_0 ka_1 ka_2 k2_0 k2_1 k2_2 k3_0 k3_1 k3_2
  rintro e w7 ⟨rfl, bb⟩
  have ha := ha.below bb
  have ka := ka.below bb
  have z2 := z2.below bb
  have k2 := k2.below bb
  have z3 := z3.below bb
  have k3 := k3.below bb
  have B0 := B0.trans (bb.mono B0.size)
  clear bb
  have ka_0 := ka.c0
  have ka_1 := ka.c1
  have ka_2 := ka.c2
  go_wp2_with fail
  refine (alive_walk _ (HT.out.below B0)).mono ?_
  clear ka_0 ka_1 ka_2
  rintro e w8 ⟨rfl, bb⟩
  have ha := ha.below bb
  have ka := ka.below bb
  have B0 := B0.trans (bb.mono B0.size)
  clear bb
  go_wp2
  go_ret
  exact ⟨rfl, B0⟩
set_option maxRecDepth 20000 in
set_option maxHeartbeats 8000000 in
theorem measureRoundTrip_err_ferr {ba : Bool} {Aa : Option Addr} {na ca : Nat} {Ba : Option Addr} {ma da : Nat} {xa : Rat} (s : ByteArray) (w : World) (ha : Qv w (.agg #[.bool ba, .slice Aa na ca, .slice Ba ma da]) xa na ma) (h1 : na ≤ 24 ∧ ma ≤ 24) (hs : ¬ (60 : Int) < (s.size : Int)) (hf : fMea xa = none) (hg : s.size ≤ 24) (q : Rat) (hp : pMea s.data.toList = some q) (hu : fMea q = none) (ht : Tab w) :
    Calls Tryz.prog 4 #[.agg #[.bool ba, .slice Aa na ca, .slice Ba ma da], .string s] w (BoolEnd true w) := by
  have HT := Lib.hid ht
  clear ht
  have hs' : decide ((60 : Int) < (s.size : Int)) = false := decide_eq_false hs
  have HF := Lib.hid hf
  have HG := Lib.hid hg
  have HP := Lib.hid hp
  have HU := Lib.hid hu
  clear hf hg hp hu
  have B0 := below_a1 w (.cells #[.bool ba, .slice Aa na ca, .slice Ba ma da] 27)
  have ha := ha.below B0
  have ka := (Bq.new w (w.heap.size) (by simp) (.bool ba) (.slice Aa na ca) (.slice Ba ma da))
  go_enter Tryz.func4, Tryz.ntmps4
  have ka_0 := ka.c0
  have ka_1 := ka.c1
  have ka_2 := ka.c2
  go_wp2_with fail
  refine (light_yes ba Aa na ca Ba ma da _ _ (by omega) (by omega)).mono ?_
  clear ka_0 ka_1 ka_2
  rintro e w1 ⟨rfl, bb⟩
  have ha := ha.below bb
  have ka := ka.below bb
  have B0 := B0.trans (bb.mono B0.size)
  clear bb
  have ka_0 := ka.c0
  have ka_1 := ka.c1
  have ka_2 := ka.c2
  go_wp2_with fail
  refine (mfmt_err ha (by omega) (by omega) (HT.out.below B0) HF.out).mono ?_
  clear ka_0 ka_1 ka_2
  rintro e w2 ⟨rfl, bb⟩
  have ha := ha.below bb
  have ka := ka.below bb
  have B0 := B0.trans (bb.mono B0.size)
  clear bb
  have ka_0 := ka.c0
  have ka_1 := ka.c1
  have ka_2 := ka.c2
  go_wp2_with fail
  refine (mparse_no ⟨#[]⟩ _ (by decide) (by decide)).mono ?_
  clear ka_0 ka_1 ka_2
  rintro e w3 ⟨rfl, bb⟩
  have ha := ha.below bb
  have ka := ka.below bb
  have B0 := B0.trans (bb.mono B0.size)
  clear bb
  have ha := ha.below (below_alloc w3 (.cells #[.bool false, .slice none 0 0, .slice none 0 0] 27))
  have ka := ka.below (below_alloc w3 (.cells #[.bool false, .slice none 0 0, .slice none 0 0] 27))
  have k1 := Bq.new w3 (w3.heap.size) (by simp) (.bool false) (.slice none 0 0) (.slice none 0 0)
  have B0 := B0.trans ((below_alloc w3 (.cells #[.bool false, .slice none 0 0, .slice none 0 0] 27)).mono B0.size)
  have ka_0 := ka.c0
  have ka_1 := ka.c1
  have ka_2 := ka.c2
  go_wp2_with fail
  refine (mparse_yes s _ HG.out q HP.out).mono ?_
  clear ka_0 ka_1 ka_2
  rintro e w4 ⟨b2, A2, n2, c2, B2, m2, d2, rfl, z2, bb⟩
  have ha := ha.below bb
  have ka := ka.below bb
  have B0 := B0.trans (bb.mono B0.size)
  clear bb
  have ha := ha.below (below_alloc w4 (.cells #[.bool b2, .slice A2 n2 c2, .slice B2 m2 d2] 27))
  have ka := ka.below (below_alloc w4 (.cells #[.bool b2, .slice A2 n2 c2, .slice B2 m2 d2] 27))
  have z2 := z2.below (below_alloc w4 (.cells #[.bool b2, .slice A2 n2 c2, .slice B2 m2 d2] 27))
  have k2 := Bq.new w4 (w4.heap.size) (by simp) (.bool b2) (.slice A2 n2 c2) (.slice B2 m2 d2)
  have B0 := B0.trans ((below_alloc w4 (.cells #[.bool b2, .slice A2 n2 c2, .slice B2 m2 d2] 27)).mono B0.size)
  have ka_0 := ka.c0
  have ka_1 := ka.c1
  have ka_2 := ka.c2
  have k2_0 := k2.c0
  have k2_1 := k2.c1
  have k2_2 := k2.c2
  go_wp2_with fail
  refine (mfmt_err z2.qv (by omega) (by omega) (HT.out.below B0) HU.out).mono ?_
  clear ka_0 ka_1 ka_2 k2_0 k2_1 k2_2
  rintro e w5 ⟨rfl, bb⟩
  have ha := ha.below bb
  have ka := ka.below bb
  have z2 := z2.below bb
  have k2 := k2.below bb
  have B0 := B0.trans (bb.mono B0.size)
  clear bb
  have ka_0 := ka.c0
  have ka_1 := ka.c1
  have ka_2 := ka.c2
  have k2_0 := k2.c0
  have k2_1 := k2.c1
  have k2_2 := k2.c2
  go_wp2_with fail
  refine (mparse_no ⟨#[]⟩ _ (by decide) (by decide)).mono ?_
  clear ka_0 ka_1 ka_2 k2_0 k2_1 k2_2
  rintro e w6 ⟨rfl, bb⟩
  have ha := ha.below bb
  have ka := ka.below bb
  have z2 := z2.below bb
  have k2 := k2.below bb
  have B0 := B0.trans (bb.mono B0.size)
  clear bb
  have ha := ha.below (below_alloc w6 (.cells #[.bool false, .slice none 0 0, .slice none 0 0] 27))
  have ka := ka.below (below_alloc w6 (.cells #[.bool false, .slice none 0 0, .slice none 0 0] 27))
  have z2 := z2.below (below_alloc w6 (.cells #[.bool false, .slice none 0 0, .slice none 0 0] 27))
  have k2 := k2.below (below_alloc w6 (.cells #[.bool false, .slice none 0 0, .slice none 0 0] 27))
  have k3 := Bq.new w6 (w6.heap.size) (by simp) (.bool false) (.slice none 0 0) (.slice none 0 0)
  have B0 := B0.trans ((below_alloc w6 (.cells #[.bool false, .slice none 0 0, .slice none 0 0] 27)).mono B0.size)
  have ka_0 := ka.c0
  have ka_1 := ka.c1
  have ka_2 := ka.c2
  go_wp2_with fail
  refine (alive_walk _ (HT.out.below B0)).mono ?_
  clear ka_0 ka_1 ka_2
  rintro e w7 ⟨rfl, bb⟩
  have ha := ha.below bb
  have ka := ka.below bb
  have B0 := B0.trans (bb.mono B0.size)
  clear bb
  go_wp2
  go_ret
  exact ⟨rfl, B0⟩
theorem measureRoundTrip_walk {va : Value} {xa : Rat} {ka ja : Nat} (w : World) (ha : Qv w va xa ka ja) (s : ByteArray) (hsz : s.size ≤ 9223372036854775807) (ht : Tab w) : Calls Tryz.prog 4 #[va, .string s] w (BoolEnd true w) := by
  obtain ⟨ba, Aa, na, ca, Ba, ma, da, rfl, _, _, ha⟩ := ha.named
  by_cases la : 24 < na ∨ 24 < ma
  · exact measureRoundTrip_long_a s w la ht
  by_cases h60 : 60 < s.size
  · exact measureRoundTrip_long_s s w (by omega) (by omega) ht
  rcases hf : fMea xa with _ | t
  · by_cases hg : s.size ≤ 24
    · rcases hp : pMea s.data.toList with _ | q
      · exact measureRoundTrip_err_none s w ha (by omega) (by omega) hf hg hp ht
      · rcases hu : fMea q with _ | u
        · exact measureRoundTrip_err_ferr s w ha (by omega) (by omega) hf hg q hp hu ht
        · exact measureRoundTrip_err_fok s w ha (by omega) (by omega) hf hg q hp u hu ht
    · exact measureRoundTrip_err_long s w ha (by omega) (by omega) hf (by omega) ht
  · by_cases hg : s.size ≤ 24
    · rcases hp : pMea s.data.toList with _ | q
      · exact measureRoundTrip_ok_none s w ha (by omega) (by omega) t hf hg hp ht
      · rcases hu : fMea q with _ | u
        · exact measureRoundTrip_ok_ferr s w ha (by omega) (by omega) t hf hg q hp hu ht
        · exact measureRoundTrip_ok_fok s w ha (by omega) (by omega) t hf hg q hp u hu ht
    · exact measureRoundTrip_ok_long s w ha (by omega) (by omega) t hf (by omega) ht
end Go.Proofs.YtohlilgnognmgaaGreatDoor
