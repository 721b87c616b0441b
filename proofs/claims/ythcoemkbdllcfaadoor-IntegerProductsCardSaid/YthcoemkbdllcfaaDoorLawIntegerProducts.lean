/-
  The walk of garmentlaw02.IntegerProducts: it returns true, whatever the integers.
-/
import Derived.Test.YthcoemkbdllcfaaDoorLawA
import Derived.Test.YthcoemkbdllcfaaDoorRIntD
namespace Go.Proofs.YthcoemkbdllcfaaDoor
open Go.RowKit
attribute [local go_sem ↓] Go.wp_at_zero Go.wp_at_succ
set_option linter.unusedVariables false

theorem ridiv_z {w : World} {v u : Value} {z y : Int} {k j : Nat} (h : Iv w v z k) (hu : Iv w u y j) (hk : k ≤ 100) (hj : j ≤ 100) (hy : y = 0) : Calls Tryd.prog 26 #[v, u] w (ID0End w) :=
  (ridiv_i h hu hk hj).mono fun e w' hd => by unfold DEnd at hd; rwa [if_pos hy] at hd
theorem ridiv_p {w : World} {v u : Value} {z y : Int} {k j : Nat} (h : Iv w v z k) (hu : Iv w u y j) (hk : k ≤ 100) (hj : j ≤ 100) (hy : y ≠ 0) : Calls Tryd.prog 26 #[v, u] w (IDEnd (z / y) (z % y) (k + 3) j w) :=
  (ridiv_i h hu hk hj).mono fun e w' hd => by unfold DEnd at hd; rwa [if_neg hy] at hd
set_option maxRecDepth 20000 in
set_option maxHeartbeats 8000000 in
theorem integerProducts_long {ba bb' : Bool} {Aa Ab : Option Addr} {na ca nb cb : Nat} (w : World) (hl : 40 < na ∨ 40 < nb) (ht : Tab w) :
    Calls Tryd.prog 4 #[.agg #[.bool ba, .slice Aa na ca], .agg #[.bool bb', .slice Ab nb cb]] w (BoolEnd true w) := by
  have HT := Lib.hid ht
  clear ht
  have B0 := below_a2 w (.cells #[.bool ba, .slice Aa na ca] 25) (.cells #[.bool bb', .slice Ab nb cb] 25)
  have ka := ((Bx.new w (w.heap.size) (by simp) (.bool ba) (.slice Aa na ca)).below (below_alloc (w.alloc (.cells #[.bool ba, .slice Aa na ca] 25)) (.cells #[.bool bb', .slice Ab nb cb] 25)))
  have kb := (Bx.new (w.alloc (.cells #[.bool ba, .slice Aa na ca] 25)) (w.heap.size + 1) (by simp) (.bool bb') (.slice Ab nb cb))
  go_enter Tryd.func4, Tryd.ntmps4
  have ka0 := ka.1
  have ka1 := ka.2
  have kb0 := kb.1
  have kb1 := kb.2
  go_wp2_with fail
  refine (short_no ba bb' Aa Ab na ca nb cb _ hl).mono ?_
  clear ka0 ka1 kb0 kb1
  rintro e w1 ⟨rfl, bb⟩
  have ka := ka.below bb
  have kb := kb.below bb
  have B0 := B0.trans (bb.mono B0.size)
  clear bb
  have ka0 := ka.1
  have ka1 := ka.2
  have kb0 := kb.1
  have kb1 := kb.2
  go_wp2_with fail
  refine (awake_walk _ (HT.out.below B0)).mono ?_
  clear ka0 ka1 kb0 kb1
  rintro e w2 ⟨rfl, bb⟩
  have ka := ka.below bb
  have kb := kb.below bb
  have B0 := B0.trans (bb.mono B0.size)
  clear bb
  go_wp2
  go_ret
  exact ⟨rfl, B0⟩
set_option maxRecDepth 20000 in
set_option maxHeartbeats 8000000 in
theorem integerProducts_zero {ba bb' : Bool} {Aa Ab : Option Addr} {na ca nb cb : Nat} {a b : Int} (w : World) (ha : Iv w (.agg #[.bool ba, .slice Aa na ca]) a na) (hb : Iv w (.agg #[.bool bb', .slice Ab nb cb]) b nb) (h1 : na ≤ 40) (h2 : nb ≤ 40) (h0 : b = 0) (ht : Tab w) :
    Calls Tryd.prog 4 #[.agg #[.bool ba, .slice Aa na ca], .agg #[.bool bb', .slice Ab nb cb]] w (BoolEnd true w) := by
  have HT := Lib.hid ht
  clear ht
  have H0 := Lib.hid h0
  clear h0
  have B0 := below_a2 w (.cells #[.bool ba, .slice Aa na ca] 25) (.cells #[.bool bb', .slice Ab nb cb] 25)
  have ha := ha.below B0
  have hb := hb.below B0
  have ka := ((Bx.new w (w.heap.size) (by simp) (.bool ba) (.slice Aa na ca)).below (below_alloc (w.alloc (.cells #[.bool ba, .slice Aa na ca] 25)) (.cells #[.bool bb', .slice Ab nb cb] 25)))
  have kb := (Bx.new (w.alloc (.cells #[.bool ba, .slice Aa na ca] 25)) (w.heap.size + 1) (by simp) (.bool bb') (.slice Ab nb cb))
  go_enter Tryd.func4, Tryd.ntmps4
  have ka0 := ka.1
  have ka1 := ka.2
  have kb0 := kb.1
  have kb1 := kb.2
  go_wp2_with fail
  refine (short_yes ba bb' Aa Ab na ca nb cb _ h1 h2).mono ?_
  clear ka0 ka1 kb0 kb1
  rintro e w1 ⟨rfl, bb⟩
  have ha := ha.below bb
  have hb := hb.below bb
  have ka := ka.below bb
  have kb := kb.below bb
  have B0 := B0.trans (bb.mono B0.size)
  clear bb
  have ka0 := ka.1
  have ka1 := ka.2
  have kb0 := kb.1
  have kb1 := kb.2
  go_wp2_with fail
  refine (idiv_i0 ha hb (by omega) (by omega) H0.out).mono ?_
  clear ka0 ka1 kb0 kb1
  rintro e w2 ⟨rfl, bb⟩
  have ha := ha.below bb
  have hb := hb.below bb
  have ka := ka.below bb
  have kb := kb.below bb
  have B0 := B0.trans (bb.mono B0.size)
  clear bb
  have ha := ha.below (below_alloc w2 (.cells #[.bool false, .slice none 0 0] 25))
  have hb := hb.below (below_alloc w2 (.cells #[.bool false, .slice none 0 0] 25))
  have ka := ka.below (below_alloc w2 (.cells #[.bool false, .slice none 0 0] 25))
  have kb := kb.below (below_alloc w2 (.cells #[.bool false, .slice none 0 0] 25))
  have kq := Bx.new w2 (w2.heap.size) (by simp) (.bool false) (.slice none 0 0)
  have B0 := B0.trans ((below_alloc w2 (.cells #[.bool false, .slice none 0 0] 25)).mono B0.size)
  have ha := ha.below (below_alloc (w2.alloc (.cells #[.bool false, .slice none 0 0] 25)) (.cells #[.bool false, .slice none 0 0] 25))
  have hb := hb.below (below_alloc (w2.alloc (.cells #[.bool false, .slice none 0 0] 25)) (.cells #[.bool false, .slice none 0 0] 25))
  have ka := ka.below (below_alloc (w2.alloc (.cells #[.bool false, .slice none 0 0] 25)) (.cells #[.bool false, .slice none 0 0] 25))
  have kb := kb.below (below_alloc (w2.alloc (.cells #[.bool false, .slice none 0 0] 25)) (.cells #[.bool false, .slice none 0 0] 25))
  have kq := kq.below (below_alloc (w2.alloc (.cells #[.bool false, .slice none 0 0] 25)) (.cells #[.bool false, .slice none 0 0] 25))
  have kr := Bx.new (w2.alloc (.cells #[.bool false, .slice none 0 0] 25)) (w2.heap.size + 1) (by simp) (.bool false) (.slice none 0 0)
  have B0 := B0.trans ((below_alloc (w2.alloc (.cells #[.bool false, .slice none 0 0] 25)) (.cells #[.bool false, .slice none 0 0] 25)).mono B0.size)
  have ka0 := ka.1
  have ka1 := ka.2
  have kb0 := kb.1
  have kb1 := kb.2
  have kq0 := kq.1
  have kq1 := kq.2
  have kr0 := kr.1
  have kr1 := kr.2
  go_wp2_with fail
  refine (ridiv_z ha hb (by omega) (by omega) H0.out).mono ?_
  clear ka0 ka1 kb0 kb1 kq0 kq1 kr0 kr1
  rintro e w3 ⟨rfl, bb⟩
  have ha := ha.below bb
  have hb := hb.below bb
  have ka := ka.below bb
  have kb := kb.below bb
  have kq := kq.below bb
  have kr := kr.below bb
  have B0 := B0.trans (bb.mono B0.size)
  clear bb
  have ha := ha.below (below_alloc w3 (.cells #[.bool false, .slice none 0 0] 25))
  have hb := hb.below (below_alloc w3 (.cells #[.bool false, .slice none 0 0] 25))
  have ka := ka.below (below_alloc w3 (.cells #[.bool false, .slice none 0 0] 25))
  have kb := kb.below (below_alloc w3 (.cells #[.bool false, .slice none 0 0] 25))
  have kq := kq.below (below_alloc w3 (.cells #[.bool false, .slice none 0 0] 25))
  have kr := kr.below (below_alloc w3 (.cells #[.bool false, .slice none 0 0] 25))
  have ks := Bx.new w3 (w3.heap.size) (by simp) (.bool false) (.slice none 0 0)
  have B0 := B0.trans ((below_alloc w3 (.cells #[.bool false, .slice none 0 0] 25)).mono B0.size)
  have ha := ha.below (below_alloc (w3.alloc (.cells #[.bool false, .slice none 0 0] 25)) (.cells #[.bool false, .slice none 0 0] 25))
  have hb := hb.below (below_alloc (w3.alloc (.cells #[.bool false, .slice none 0 0] 25)) (.cells #[.bool false, .slice none 0 0] 25))
  have ka := ka.below (below_alloc (w3.alloc (.cells #[.bool false, .slice none 0 0] 25)) (.cells #[.bool false, .slice none 0 0] 25))
  have kb := kb.below (below_alloc (w3.alloc (.cells #[.bool false, .slice none 0 0] 25)) (.cells #[.bool false, .slice none 0 0] 25))
  have kq := kq.below (below_alloc (w3.alloc (.cells #[.bool false, .slice none 0 0] 25)) (.cells #[.bool false, .slice none 0 0] 25))
  have kr := kr.below (below_alloc (w3.alloc (.cells #[.bool false, .slice none 0 0] 25)) (.cells #[.bool false, .slice none 0 0] 25))
  have ks := ks.below (below_alloc (w3.alloc (.cells #[.bool false, .slice none 0 0] 25)) (.cells #[.bool false, .slice none 0 0] 25))
  have kt := Bx.new (w3.alloc (.cells #[.bool false, .slice none 0 0] 25)) (w3.heap.size + 1) (by simp) (.bool false) (.slice none 0 0)
  have B0 := B0.trans ((below_alloc (w3.alloc (.cells #[.bool false, .slice none 0 0] 25)) (.cells #[.bool false, .slice none 0 0] 25)).mono B0.size)
  go_wp2_with fail
  have ha := ha.drew
  have hb := hb.drew
  have ka := ka.drew
  have kb := kb.drew
  have kq := kq.drew
  have kr := kr.drew
  have ks := ks.drew
  have kt := kt.drew
  have B0 := b_drew B0
  go_region_held3 (fun w' => w'.cell? ⟨w.heap.size, 0, none⟩ = some (.bool ba) ∧ w'.cell? ⟨w.heap.size, 1, none⟩ = some (.slice Aa na ca) ∧ w'.cell? ⟨w.heap.size + 1, 0, none⟩ = some (.bool bb') ∧ w'.cell? ⟨w.heap.size + 1, 1, none⟩ = some (.slice Ab nb cb) ∧ w'.cell? ⟨w2.heap.size, 0, none⟩ = some (.bool false) ∧ w'.cell? ⟨w2.heap.size, 1, none⟩ = some (.slice none 0 0) ∧ w'.cell? ⟨w2.heap.size + 1, 0, none⟩ = some (.bool false) ∧ w'.cell? ⟨w2.heap.size + 1, 1, none⟩ = some (.slice none 0 0) ∧ w'.cell? ⟨w3.heap.size, 0, none⟩ = some (.bool false) ∧ w'.cell? ⟨w3.heap.size, 1, none⟩ = some (.slice none 0 0) ∧ w'.cell? ⟨w3.heap.size + 1, 0, none⟩ = some (.bool false) ∧ w'.cell? ⟨w3.heap.size + 1, 1, none⟩ = some (.slice none 0 0)) (first | exact ⟨ka.1, ka.2, kb.1, kb.2, kq.1, kq.2, kr.1, kr.2, ks.1, ks.2, kt.1, kt.2⟩)
    (first
      | (go_at_call 27; (with_reducible refine (imul_i ha hb ?_ ?_).mono ?_); omega; omega; rintro e w4 ⟨v5, rfl, z5, bb⟩; have ha := ha.below bb; have hb := hb.below bb; have ka := ka.below bb; have kb := kb.below bb; have kq := kq.below bb; have kr := kr.below bb; have ks := ks.below bb; have kt := kt.below bb; have B0 := B0.trans (bb.mono B0.size); clear bb)
      | (go_at_call 28; (with_reducible refine (rimul_i ha hb ?_ ?_).mono ?_); omega; omega; rintro e w5 ⟨v6, rfl, z6, bb⟩; have ha := ha.below bb; have hb := hb.below bb; have ka := ka.below bb; have kb := kb.below bb; have kq := kq.below bb; have kr := kr.below bb; have ks := ks.below bb; have kt := kt.below bb; have z5 := z5.below bb; have B0 := B0.trans (bb.mono B0.size); clear bb)
      | (go_at_call 14; (with_reducible refine (isame_i z5 z6 (rfl)).mono ?_); rintro e w6 ⟨rfl, bb⟩; have ha := ha.below bb; have hb := hb.below bb; have ka := ka.below bb; have kb := kb.below bb; have kq := kq.below bb; have kr := kr.below bb; have ks := ks.below bb; have kt := kt.below bb; have z5 := z5.below bb; have z6 := z6.below bb; have B0 := B0.trans (bb.mono B0.size); clear bb)
      | (go_at_call 14; (with_reducible refine (isame_i (zero_iz _) (zero_iz _) (rfl)).mono ?_); rintro e w7 ⟨rfl, bb⟩; have ha := ha.below bb; have hb := hb.below bb; have ka := ka.below bb; have kb := kb.below bb; have kq := kq.below bb; have kr := kr.below bb; have ks := ks.below bb; have kt := kt.below bb; have B0 := B0.trans (bb.mono B0.size); clear bb)
      | (go_at_call 14; (with_reducible refine (isame_i (zero_iz _) (zero_iz _) (rfl)).mono ?_); rintro e w8 ⟨rfl, bb⟩; have ha := ha.below bb; have hb := hb.below bb; have ka := ka.below bb; have kb := kb.below bb; have kq := kq.below bb; have kr := kr.below bb; have ks := ks.below bb; have kt := kt.below bb; have B0 := B0.trans (bb.mono B0.size); clear bb)
      | (go_at_call 13; (with_reducible refine (awake_walk _ (HT.out.below B0)).mono ?_); rintro e w9 ⟨rfl, bb⟩; have ha := ha.below bb; have hb := hb.below bb; have ka := ka.below bb; have kb := kb.below bb; have kq := kq.below bb; have kr := kr.below bb; have ks := ks.below bb; have kt := kt.below bb; have B0 := B0.trans (bb.mono B0.size); clear bb))
  go_wp2
  go_ret
  exact ⟨rfl, B0⟩
set_option maxRecDepth 20000 in
set_option maxHeartbeats 8000000 in
theorem integerProducts_pos {ba bb' : Bool} {Aa Ab : Option Addr} {na ca nb cb : Nat} {a b : Int} (w : World) (ha : Iv w (.agg #[.bool ba, .slice Aa na ca]) a na) (hb : Iv w (.agg #[.bool bb', .slice Ab nb cb]) b nb) (h1 : na ≤ 40) (h2 : nb ≤ 40) (h0 : b ≠ 0) (ht : Tab w) :
    Calls Tryd.prog 4 #[.agg #[.bool ba, .slice Aa na ca], .agg #[.bool bb', .slice Ab nb cb]] w (BoolEnd true w) := by
  have HT := Lib.hid ht
  clear ht
  have H0 := Lib.hid h0
  clear h0
  have B0 := below_a2 w (.cells #[.bool ba, .slice Aa na ca] 25) (.cells #[.bool bb', .slice Ab nb cb] 25)
  have ha := ha.below B0
  have hb := hb.below B0
  have ka := ((Bx.new w (w.heap.size) (by simp) (.bool ba) (.slice Aa na ca)).below (below_alloc (w.alloc (.cells #[.bool ba, .slice Aa na ca] 25)) (.cells #[.bool bb', .slice Ab nb cb] 25)))
  have kb := (Bx.new (w.alloc (.cells #[.bool ba, .slice Aa na ca] 25)) (w.heap.size + 1) (by simp) (.bool bb') (.slice Ab nb cb))
  go_enter Tryd.func4, Tryd.ntmps4
  have ka0 := ka.1
  have ka1 := ka.2
  have kb0 := kb.1
  have kb1 := kb.2
  go_wp2_with fail
  refine (short_yes ba bb' Aa Ab na ca nb cb _ h1 h2).mono ?_
  clear ka0 ka1 kb0 kb1
  rintro e w1 ⟨rfl, bb⟩
  have ha := ha.below bb
  have hb := hb.below bb
  have ka := ka.below bb
  have kb := kb.below bb
  have B0 := B0.trans (bb.mono B0.size)
  clear bb
  have ka0 := ka.1
  have ka1 := ka.2
  have kb0 := kb.1
  have kb1 := kb.2
  go_wp2_with fail
  refine (idiv_i ha hb (by omega) (by omega) H0.out).mono ?_
  clear ka0 ka1 kb0 kb1
  rintro e w2 ⟨vq, vr, rfl, zq, zr, bb⟩
  have ha := ha.below bb
  have hb := hb.below bb
  have ka := ka.below bb
  have kb := kb.below bb
  have B0 := B0.trans (bb.mono B0.size)
  clear bb
  obtain ⟨bzq, Azq, nzq, czq, rfl, zq⟩ := zq.cells
  obtain ⟨bzr, Azr, nzr, czr, rfl, zr⟩ := zr.cells
  have ha := ha.below (below_alloc w2 (.cells #[.bool bzq, .slice Azq nzq czq] 25))
  have hb := hb.below (below_alloc w2 (.cells #[.bool bzq, .slice Azq nzq czq] 25))
  have ka := ka.below (below_alloc w2 (.cells #[.bool bzq, .slice Azq nzq czq] 25))
  have kb := kb.below (below_alloc w2 (.cells #[.bool bzq, .slice Azq nzq czq] 25))
  have zq := zq.below (below_alloc w2 (.cells #[.bool bzq, .slice Azq nzq czq] 25))
  have zr := zr.below (below_alloc w2 (.cells #[.bool bzq, .slice Azq nzq czq] 25))
  have kq := Bx.new w2 (w2.heap.size) (by simp) (.bool bzq) (.slice Azq nzq czq)
  have B0 := B0.trans ((below_alloc w2 (.cells #[.bool bzq, .slice Azq nzq czq] 25)).mono B0.size)
  have ha := ha.below (below_alloc (w2.alloc (.cells #[.bool bzq, .slice Azq nzq czq] 25)) (.cells #[.bool bzr, .slice Azr nzr czr] 25))
  have hb := hb.below (below_alloc (w2.alloc (.cells #[.bool bzq, .slice Azq nzq czq] 25)) (.cells #[.bool bzr, .slice Azr nzr czr] 25))
  have ka := ka.below (below_alloc (w2.alloc (.cells #[.bool bzq, .slice Azq nzq czq] 25)) (.cells #[.bool bzr, .slice Azr nzr czr] 25))
  have kb := kb.below (below_alloc (w2.alloc (.cells #[.bool bzq, .slice Azq nzq czq] 25)) (.cells #[.bool bzr, .slice Azr nzr czr] 25))
  have zq := zq.below (below_alloc (w2.alloc (.cells #[.bool bzq, .slice Azq nzq czq] 25)) (.cells #[.bool bzr, .slice Azr nzr czr] 25))
  have zr := zr.below (below_alloc (w2.alloc (.cells #[.bool bzq, .slice Azq nzq czq] 25)) (.cells #[.bool bzr, .slice Azr nzr czr] 25))
  have kq := kq.below (below_alloc (w2.alloc (.cells #[.bool bzq, .slice Azq nzq czq] 25)) (.cells #[.bool bzr, .slice Azr nzr czr] 25))
  have kr := Bx.new (w2.alloc (.cells #[.bool bzq, .slice Azq nzq czq] 25)) (w2.heap.size + 1) (by simp) (.bool bzr) (.slice Azr nzr czr)
  have B0 := B0.trans ((below_alloc (w2.alloc (.cells #[.bool bzq, .slice Azq nzq czq] 25)) (.cells #[.bool bzr, .slice Azr nzr czr] 25)).mono B0.size)
  have ka0 := ka.1
  have ka1 := ka.2
  have kb0 := kb.1
  have kb1 := kb.2
  have kq0 := kq.1
  have kq1 := kq.2
  have kr0 := kr.1
  have kr1 := kr.2
  go_wp2_with fail
  refine (ridiv_p ha hb (by omega) (by omega) H0.out).mono ?_
  clear ka0 ka1 kb0 kb1 kq0 kq1 kr0 kr1
  rintro e w3 ⟨vs, vt, rfl, zs, zt, bb⟩
  have ha := ha.below bb
  have hb := hb.below bb
  have ka := ka.below bb
  have kb := kb.below bb
  have zq := zq.below bb
  have zr := zr.below bb
  have kq := kq.below bb
  have kr := kr.below bb
  have B0 := B0.trans (bb.mono B0.size)
  clear bb
  obtain ⟨bzs, Azs, nzs, czs, rfl, zs⟩ := zs.cells
  obtain ⟨bzt, Azt, nzt, czt, rfl, zt⟩ := zt.cells
  have ha := ha.below (below_alloc w3 (.cells #[.bool bzs, .slice Azs nzs czs] 25))
  have hb := hb.below (below_alloc w3 (.cells #[.bool bzs, .slice Azs nzs czs] 25))
  have ka := ka.below (below_alloc w3 (.cells #[.bool bzs, .slice Azs nzs czs] 25))
  have kb := kb.below (below_alloc w3 (.cells #[.bool bzs, .slice Azs nzs czs] 25))
  have zq := zq.below (below_alloc w3 (.cells #[.bool bzs, .slice Azs nzs czs] 25))
  have zr := zr.below (below_alloc w3 (.cells #[.bool bzs, .slice Azs nzs czs] 25))
  have kq := kq.below (below_alloc w3 (.cells #[.bool bzs, .slice Azs nzs czs] 25))
  have kr := kr.below (below_alloc w3 (.cells #[.bool bzs, .slice Azs nzs czs] 25))
  have zs := zs.below (below_alloc w3 (.cells #[.bool bzs, .slice Azs nzs czs] 25))
  have zt := zt.below (below_alloc w3 (.cells #[.bool bzs, .slice Azs nzs czs] 25))
  have ks := Bx.new w3 (w3.heap.size) (by simp) (.bool bzs) (.slice Azs nzs czs)
  have B0 := B0.trans ((below_alloc w3 (.cells #[.bool bzs, .slice Azs nzs czs] 25)).mono B0.size)
  have ha := ha.below (below_alloc (w3.alloc (.cells #[.bool bzs, .slice Azs nzs czs] 25)) (.cells #[.bool bzt, .slice Azt nzt czt] 25))
  have hb := hb.below (below_alloc (w3.alloc (.cells #[.bool bzs, .slice Azs nzs czs] 25)) (.cells #[.bool bzt, .slice Azt nzt czt] 25))
  have ka := ka.below (below_alloc (w3.alloc (.cells #[.bool bzs, .slice Azs nzs czs] 25)) (.cells #[.bool bzt, .slice Azt nzt czt] 25))
  have kb := kb.below (below_alloc (w3.alloc (.cells #[.bool bzs, .slice Azs nzs czs] 25)) (.cells #[.bool bzt, .slice Azt nzt czt] 25))
  have zq := zq.below (below_alloc (w3.alloc (.cells #[.bool bzs, .slice Azs nzs czs] 25)) (.cells #[.bool bzt, .slice Azt nzt czt] 25))
  have zr := zr.below (below_alloc (w3.alloc (.cells #[.bool bzs, .slice Azs nzs czs] 25)) (.cells #[.bool bzt, .slice Azt nzt czt] 25))
  have kq := kq.below (below_alloc (w3.alloc (.cells #[.bool bzs, .slice Azs nzs czs] 25)) (.cells #[.bool bzt, .slice Azt nzt czt] 25))
  have kr := kr.below (below_alloc (w3.alloc (.cells #[.bool bzs, .slice Azs nzs czs] 25)) (.cells #[.bool bzt, .slice Azt nzt czt] 25))
  have zs := zs.below (below_alloc (w3.alloc (.cells #[.bool bzs, .slice Azs nzs czs] 25)) (.cells #[.bool bzt, .slice Azt nzt czt] 25))
  have zt := zt.below (below_alloc (w3.alloc (.cells #[.bool bzs, .slice Azs nzs czs] 25)) (.cells #[.bool bzt, .slice Azt nzt czt] 25))
  have ks := ks.below (below_alloc (w3.alloc (.cells #[.bool bzs, .slice Azs nzs czs] 25)) (.cells #[.bool bzt, .slice Azt nzt czt] 25))
  have kt := Bx.new (w3.alloc (.cells #[.bool bzs, .slice Azs nzs czs] 25)) (w3.heap.size + 1) (by simp) (.bool bzt) (.slice Azt nzt czt)
  have B0 := B0.trans ((below_alloc (w3.alloc (.cells #[.bool bzs, .slice Azs nzs czs] 25)) (.cells #[.bool bzt, .slice Azt nzt czt] 25)).mono B0.size)
  go_wp2_with fail
  have ha := ha.drew
  have hb := hb.drew
  have ka := ka.drew
  have kb := kb.drew
  have zq := zq.drew
  have zr := zr.drew
  have kq := kq.drew
  have kr := kr.drew
  have zs := zs.drew
  have zt := zt.drew
  have ks := ks.drew
  have kt := kt.drew
  have B0 := b_drew B0
  go_region_held3 (fun w' => w'.cell? ⟨w.heap.size, 0, none⟩ = some (.bool ba) ∧ w'.cell? ⟨w.heap.size, 1, none⟩ = some (.slice Aa na ca) ∧ w'.cell? ⟨w.heap.size + 1, 0, none⟩ = some (.bool bb') ∧ w'.cell? ⟨w.heap.size + 1, 1, none⟩ = some (.slice Ab nb cb) ∧ w'.cell? ⟨w2.heap.size, 0, none⟩ = some (.bool bzq) ∧ w'.cell? ⟨w2.heap.size, 1, none⟩ = some (.slice Azq nzq czq) ∧ w'.cell? ⟨w2.heap.size + 1, 0, none⟩ = some (.bool bzr) ∧ w'.cell? ⟨w2.heap.size + 1, 1, none⟩ = some (.slice Azr nzr czr) ∧ w'.cell? ⟨w3.heap.size, 0, none⟩ = some (.bool bzs) ∧ w'.cell? ⟨w3.heap.size, 1, none⟩ = some (.slice Azs nzs czs) ∧ w'.cell? ⟨w3.heap.size + 1, 0, none⟩ = some (.bool bzt) ∧ w'.cell? ⟨w3.heap.size + 1, 1, none⟩ = some (.slice Azt nzt czt)) (first | exact ⟨ka.1, ka.2, kb.1, kb.2, kq.1, kq.2, kr.1, kr.2, ks.1, ks.2, kt.1, kt.2⟩)
    (first
      | (go_at_call 27; (with_reducible refine (imul_i ha hb ?_ ?_).mono ?_); omega; omega; rintro e w4 ⟨v5, rfl, z5, bb⟩; have ha := ha.below bb; have hb := hb.below bb; have ka := ka.below bb; have kb := kb.below bb; have zq := zq.below bb; have zr := zr.below bb; have kq := kq.below bb; have kr := kr.below bb; have zs := zs.below bb; have zt := zt.below bb; have ks := ks.below bb; have kt := kt.below bb; have B0 := B0.trans (bb.mono B0.size); clear bb)
      | (go_at_call 28; (with_reducible refine (rimul_i ha hb ?_ ?_).mono ?_); omega; omega; rintro e w5 ⟨v6, rfl, z6, bb⟩; have ha := ha.below bb; have hb := hb.below bb; have ka := ka.below bb; have kb := kb.below bb; have zq := zq.below bb; have zr := zr.below bb; have kq := kq.below bb; have kr := kr.below bb; have zs := zs.below bb; have zt := zt.below bb; have ks := ks.below bb; have kt := kt.below bb; have z5 := z5.below bb; have B0 := B0.trans (bb.mono B0.size); clear bb)
      | (go_at_call 14; (with_reducible refine (isame_i z5 z6 (rfl)).mono ?_); rintro e w6 ⟨rfl, bb⟩; have ha := ha.below bb; have hb := hb.below bb; have ka := ka.below bb; have kb := kb.below bb; have zq := zq.below bb; have zr := zr.below bb; have kq := kq.below bb; have kr := kr.below bb; have zs := zs.below bb; have zt := zt.below bb; have ks := ks.below bb; have kt := kt.below bb; have z5 := z5.below bb; have z6 := z6.below bb; have B0 := B0.trans (bb.mono B0.size); clear bb)
      | (go_at_call 14; (with_reducible refine (isame_i zq zs (rfl)).mono ?_); rintro e w7 ⟨rfl, bb⟩; have ha := ha.below bb; have hb := hb.below bb; have ka := ka.below bb; have kb := kb.below bb; have zq := zq.below bb; have zr := zr.below bb; have kq := kq.below bb; have kr := kr.below bb; have zs := zs.below bb; have zt := zt.below bb; have ks := ks.below bb; have kt := kt.below bb; have B0 := B0.trans (bb.mono B0.size); clear bb)
      | (go_at_call 14; (with_reducible refine (isame_i zr zt (rfl)).mono ?_); rintro e w8 ⟨rfl, bb⟩; have ha := ha.below bb; have hb := hb.below bb; have ka := ka.below bb; have kb := kb.below bb; have zq := zq.below bb; have zr := zr.below bb; have kq := kq.below bb; have kr := kr.below bb; have zs := zs.below bb; have zt := zt.below bb; have ks := ks.below bb; have kt := kt.below bb; have B0 := B0.trans (bb.mono B0.size); clear bb)
      | (go_at_call 13; (with_reducible refine (awake_walk _ (HT.out.below B0)).mono ?_); rintro e w9 ⟨rfl, bb⟩; have ha := ha.below bb; have hb := hb.below bb; have ka := ka.below bb; have kb := kb.below bb; have zq := zq.below bb; have zr := zr.below bb; have kq := kq.below bb; have kr := kr.below bb; have zs := zs.below bb; have zt := zt.below bb; have ks := ks.below bb; have kt := kt.below bb; have B0 := B0.trans (bb.mono B0.size); clear bb))
  go_wp2
  go_ret
  exact ⟨rfl, B0⟩
theorem integerProducts_walk {va vb : Value} {a b : Int} {ka kb : Nat} (w : World) (ha : Iv w va a ka) (hb : Iv w vb b kb) (ht : Tab w) : Calls Tryd.prog 4 #[va, vb] w (BoolEnd true w) := by
  obtain ⟨ba, Aa, na, ca, rfl, _, ha⟩ := ha.named
  obtain ⟨bb', Ab, nb, cb, rfl, _, hb⟩ := hb.named
  by_cases hl : 40 < na ∨ 40 < nb
  · exact integerProducts_long w hl ht
  · by_cases h0 : b = 0
    · exact integerProducts_zero w ha hb (by omega) (by omega) h0 ht
    · exact integerProducts_pos w ha hb (by omega) (by omega) h0 ht
end Go.Proofs.YthcoemkbdllcfaaDoor
