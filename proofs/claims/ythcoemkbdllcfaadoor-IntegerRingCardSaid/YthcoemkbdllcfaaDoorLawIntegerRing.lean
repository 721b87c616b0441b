/-
  The walk of garmentlaw02.IntegerRing: it returns true, whatever the integers.
-/
import Derived.Test.YthcoemkbdllcfaaDoorLawA
import Derived.Deep.DeepCutAuto
namespace Go.Proofs.YthcoemkbdllcfaaDoor
open Go.RowKit
attribute [local go_sem ↓] Go.wp_at_zero Go.wp_at_succ
set_option linter.unusedVariables false

set_option maxRecDepth 20000 in
set_option maxHeartbeats 8000000 in
theorem integerRing_long_a {ba : Bool} {Aa : Option Addr} {na ca : Nat} {bb : Bool} {Ab : Option Addr} {nb cb : Nat} {bc : Bool} {Ac : Option Addr} {nc cc : Nat} (w : World) (hl : 20 < na) (ht : Tab w) :
    Calls Tryd.prog 7 #[.agg #[.bool ba, .slice Aa na ca], .agg #[.bool bb, .slice Ab nb cb], .agg #[.bool bc, .slice Ac nc cc]] w (BoolEnd true w) := by
  have HT := Lib.hid ht
  clear ht
  have B0 := below_a3 w (.cells #[.bool ba, .slice Aa na ca] 25) (.cells #[.bool bb, .slice Ab nb cb] 25) (.cells #[.bool bc, .slice Ac nc cc] 25)
  have ka := (((Bx.new w (w.heap.size) (by simp) (.bool ba) (.slice Aa na ca)).below (below_alloc (w.alloc (.cells #[.bool ba, .slice Aa na ca] 25)) (.cells #[.bool bb, .slice Ab nb cb] 25))).below (below_alloc ((w.alloc (.cells #[.bool ba, .slice Aa na ca] 25)).alloc (.cells #[.bool bb, .slice Ab nb cb] 25)) (.cells #[.bool bc, .slice Ac nc cc] 25)))
  have kb := ((Bx.new (w.alloc (.cells #[.bool ba, .slice Aa na ca] 25)) (w.heap.size + 1) (by simp) (.bool bb) (.slice Ab nb cb)).below (below_alloc ((w.alloc (.cells #[.bool ba, .slice Aa na ca] 25)).alloc (.cells #[.bool bb, .slice Ab nb cb] 25)) (.cells #[.bool bc, .slice Ac nc cc] 25)))
  have kc := (Bx.new ((w.alloc (.cells #[.bool ba, .slice Aa na ca] 25)).alloc (.cells #[.bool bb, .slice Ab nb cb] 25)) (w.heap.size + 1 + 1) (by simp) (.bool bc) (.slice Ac nc cc))
  go_enter Tryd.func7, Tryd.ntmps7
  have ka0 := ka.1
  have ka1 := ka.2
  have kb0 := kb.1
  have kb1 := kb.2
  have kc0 := kc.1
  have kc1 := kc.2
  go_wp2_with fail
  refine (rshort_no ba Aa na ca _ _ (by omega)).mono ?_
  clear ka0 ka1 kb0 kb1 kc0 kc1
  rintro e w1 ⟨rfl, bb⟩
  have ka := ka.below bb
  have kb := kb.below bb
  have kc := kc.below bb
  have B0 := B0.trans (bb.mono B0.size)
  clear bb
  have ka0 := ka.1
  have ka1 := ka.2
  have kb0 := kb.1
  have kb1 := kb.2
  have kc0 := kc.1
  have kc1 := kc.2
  go_wp2_with fail
  refine (awake_walk _ (HT.out.below B0)).mono ?_
  clear ka0 ka1 kb0 kb1 kc0 kc1
  rintro e w2 ⟨rfl, bb⟩
  have ka := ka.below bb
  have kb := kb.below bb
  have kc := kc.below bb
  have B0 := B0.trans (bb.mono B0.size)
  clear bb
  go_wp2
  go_ret
  exact ⟨rfl, B0⟩
set_option maxRecDepth 20000 in
set_option maxHeartbeats 8000000 in
theorem integerRing_long_b {ba : Bool} {Aa : Option Addr} {na ca : Nat} {bb : Bool} {Ab : Option Addr} {nb cb : Nat} {bc : Bool} {Ac : Option Addr} {nc cc : Nat} (w : World) (ha : na ≤ 20) (hl : 20 < nb) (ht : Tab w) :
    Calls Tryd.prog 7 #[.agg #[.bool ba, .slice Aa na ca], .agg #[.bool bb, .slice Ab nb cb], .agg #[.bool bc, .slice Ac nc cc]] w (BoolEnd true w) := by
  have HT := Lib.hid ht
  clear ht
  have B0 := below_a3 w (.cells #[.bool ba, .slice Aa na ca] 25) (.cells #[.bool bb, .slice Ab nb cb] 25) (.cells #[.bool bc, .slice Ac nc cc] 25)
  have ka := (((Bx.new w (w.heap.size) (by simp) (.bool ba) (.slice Aa na ca)).below (below_alloc (w.alloc (.cells #[.bool ba, .slice Aa na ca] 25)) (.cells #[.bool bb, .slice Ab nb cb] 25))).below (below_alloc ((w.alloc (.cells #[.bool ba, .slice Aa na ca] 25)).alloc (.cells #[.bool bb, .slice Ab nb cb] 25)) (.cells #[.bool bc, .slice Ac nc cc] 25)))
  have kb := ((Bx.new (w.alloc (.cells #[.bool ba, .slice Aa na ca] 25)) (w.heap.size + 1) (by simp) (.bool bb) (.slice Ab nb cb)).below (below_alloc ((w.alloc (.cells #[.bool ba, .slice Aa na ca] 25)).alloc (.cells #[.bool bb, .slice Ab nb cb] 25)) (.cells #[.bool bc, .slice Ac nc cc] 25)))
  have kc := (Bx.new ((w.alloc (.cells #[.bool ba, .slice Aa na ca] 25)).alloc (.cells #[.bool bb, .slice Ab nb cb] 25)) (w.heap.size + 1 + 1) (by simp) (.bool bc) (.slice Ac nc cc))
  go_enter Tryd.func7, Tryd.ntmps7
  have ka0 := ka.1
  have ka1 := ka.2
  have kb0 := kb.1
  have kb1 := kb.2
  have kc0 := kc.1
  have kc1 := kc.2
  go_wp2_with fail
  refine (rshort_yes ba Aa na ca _ _ (by omega)).mono ?_
  clear ka0 ka1 kb0 kb1 kc0 kc1
  rintro e w1 ⟨rfl, bb⟩
  have ka := ka.below bb
  have kb := kb.below bb
  have kc := kc.below bb
  have B0 := B0.trans (bb.mono B0.size)
  clear bb
  have ka0 := ka.1
  have ka1 := ka.2
  have kb0 := kb.1
  have kb1 := kb.2
  have kc0 := kc.1
  have kc1 := kc.2
  go_wp2_with fail
  refine (rshort_no bb Ab nb cb _ _ (by omega)).mono ?_
  clear ka0 ka1 kb0 kb1 kc0 kc1
  rintro e w2 ⟨rfl, bb⟩
  have ka := ka.below bb
  have kb := kb.below bb
  have kc := kc.below bb
  have B0 := B0.trans (bb.mono B0.size)
  clear bb
  have ka0 := ka.1
  have ka1 := ka.2
  have kb0 := kb.1
  have kb1 := kb.2
  have kc0 := kc.1
  have kc1 := kc.2
  go_wp2_with fail
  refine (awake_walk _ (HT.out.below B0)).mono ?_
  clear ka0 ka1 kb0 kb1 kc0 kc1
  rintro e w3 ⟨rfl, bb⟩
  have ka := ka.below bb
  have kb := kb.below bb
  have kc := kc.below bb
  have B0 := B0.trans (bb.mono B0.size)
  clear bb
  go_wp2
  go_ret
  exact ⟨rfl, B0⟩
set_option maxRecDepth 20000 in
set_option maxHeartbeats 8000000 in
theorem integerRing_long_c {ba : Bool} {Aa : Option Addr} {na ca : Nat} {bb : Bool} {Ab : Option Addr} {nb cb : Nat} {bc : Bool} {Ac : Option Addr} {nc cc : Nat} (w : World) (ha : na ≤ 20) (hb : nb ≤ 20) (hl : 20 < nc) (ht : Tab w) :
    Calls Tryd.prog 7 #[.agg #[.bool ba, .slice Aa na ca], .agg #[.bool bb, .slice Ab nb cb], .agg #[.bool bc, .slice Ac nc cc]] w (BoolEnd true w) := by
  have HT := Lib.hid ht
  clear ht
  have B0 := below_a3 w (.cells #[.bool ba, .slice Aa na ca] 25) (.cells #[.bool bb, .slice Ab nb cb] 25) (.cells #[.bool bc, .slice Ac nc cc] 25)
  have ka := (((Bx.new w (w.heap.size) (by simp) (.bool ba) (.slice Aa na ca)).below (below_alloc (w.alloc (.cells #[.bool ba, .slice Aa na ca] 25)) (.cells #[.bool bb, .slice Ab nb cb] 25))).below (below_alloc ((w.alloc (.cells #[.bool ba, .slice Aa na ca] 25)).alloc (.cells #[.bool bb, .slice Ab nb cb] 25)) (.cells #[.bool bc, .slice Ac nc cc] 25)))
  have kb := ((Bx.new (w.alloc (.cells #[.bool ba, .slice Aa na ca] 25)) (w.heap.size + 1) (by simp) (.bool bb) (.slice Ab nb cb)).below (below_alloc ((w.alloc (.cells #[.bool ba, .slice Aa na ca] 25)).alloc (.cells #[.bool bb, .slice Ab nb cb] 25)) (.cells #[.bool bc, .slice Ac nc cc] 25)))
  have kc := (Bx.new ((w.alloc (.cells #[.bool ba, .slice Aa na ca] 25)).alloc (.cells #[.bool bb, .slice Ab nb cb] 25)) (w.heap.size + 1 + 1) (by simp) (.bool bc) (.slice Ac nc cc))
  go_enter Tryd.func7, Tryd.ntmps7
  have ka0 := ka.1
  have ka1 := ka.2
  have kb0 := kb.1
  have kb1 := kb.2
  have kc0 := kc.1
  have kc1 := kc.2
  go_wp2_with fail
  refine (rshort_yes ba Aa na ca _ _ (by omega)).mono ?_
  clear ka0 ka1 kb0 kb1 kc0 kc1
  rintro e w1 ⟨rfl, bb⟩
  have ka := ka.below bb
  have kb := kb.below bb
  have kc := kc.below bb
  have B0 := B0.trans (bb.mono B0.size)
  clear bb
  have ka0 := ka.1
  have ka1 := ka.2
  have kb0 := kb.1
  have kb1 := kb.2
  have kc0 := kc.1
  have kc1 := kc.2
  go_wp2_with fail
  refine (rshort_yes bb Ab nb cb _ _ (by omega)).mono ?_
  clear ka0 ka1 kb0 kb1 kc0 kc1
  rintro e w2 ⟨rfl, bb⟩
  have ka := ka.below bb
  have kb := kb.below bb
  have kc := kc.below bb
  have B0 := B0.trans (bb.mono B0.size)
  clear bb
  have ka0 := ka.1
  have ka1 := ka.2
  have kb0 := kb.1
  have kb1 := kb.2
  have kc0 := kc.1
  have kc1 := kc.2
  go_wp2_with fail
  refine (rshort_no bc Ac nc cc _ _ (by omega)).mono ?_
  clear ka0 ka1 kb0 kb1 kc0 kc1
  rintro e w3 ⟨rfl, bb⟩
  have ka := ka.below bb
  have kb := kb.below bb
  have kc := kc.below bb
  have B0 := B0.trans (bb.mono B0.size)
  clear bb
  have ka0 := ka.1
  have ka1 := ka.2
  have kb0 := kb.1
  have kb1 := kb.2
  have kc0 := kc.1
  have kc1 := kc.2
  go_wp2_with fail
  refine (awake_walk _ (HT.out.below B0)).mono ?_
  clear ka0 ka1 kb0 kb1 kc0 kc1
  rintro e w4 ⟨rfl, bb⟩
  have ka := ka.below bb
  have kb := kb.below bb
  have kc := kc.below bb
  have B0 := B0.trans (bb.mono B0.size)
  clear bb
  go_wp2
  go_ret
  exact ⟨rfl, B0⟩
set_option maxRecDepth 20000 in
set_option maxHeartbeats 8000000 in
theorem integerRing_body {ba : Bool} {Aa : Option Addr} {na ca : Nat} {bb : Bool} {Ab : Option Addr} {nb cb : Nat} {bc : Bool} {Ac : Option Addr} {nc cc : Nat} {a : Int} {b : Int} {c : Int} (w : World) (ha : Iv w (.agg #[.bool ba, .slice Aa na ca]) a na)  (hb : Iv w (.agg #[.bool bb, .slice Ab nb cb]) b nb)  (hc : Iv w (.agg #[.bool bc, .slice Ac nc cc]) c nc) (h1 : na ≤ 20) (h2 : nb ≤ 20) (h3 : nc ≤ 20) (ht : Tab w) :
    Calls Tryd.prog 7 #[.agg #[.bool ba, .slice Aa na ca], .agg #[.bool bb, .slice Ab nb cb], .agg #[.bool bc, .slice Ac nc cc]] w (BoolEnd true w) := by
  have HT := Lib.hid ht
  clear ht
  have B0 := below_a3 w (.cells #[.bool ba, .slice Aa na ca] 25) (.cells #[.bool bb, .slice Ab nb cb] 25) (.cells #[.bool bc, .slice Ac nc cc] 25)
  have ha := ha.below B0
  have hb := hb.below B0
  have hc := hc.below B0
  have ka := (((Bx.new w (w.heap.size) (by simp) (.bool ba) (.slice Aa na ca)).below (below_alloc (w.alloc (.cells #[.bool ba, .slice Aa na ca] 25)) (.cells #[.bool bb, .slice Ab nb cb] 25))).below (below_alloc ((w.alloc (.cells #[.bool ba, .slice Aa na ca] 25)).alloc (.cells #[.bool bb, .slice Ab nb cb] 25)) (.cells #[.bool bc, .slice Ac nc cc] 25)))
  have kb := ((Bx.new (w.alloc (.cells #[.bool ba, .slice Aa na ca] 25)) (w.heap.size + 1) (by simp) (.bool bb) (.slice Ab nb cb)).below (below_alloc ((w.alloc (.cells #[.bool ba, .slice Aa na ca] 25)).alloc (.cells #[.bool bb, .slice Ab nb cb] 25)) (.cells #[.bool bc, .slice Ac nc cc] 25)))
  have kc := (Bx.new ((w.alloc (.cells #[.bool ba, .slice Aa na ca] 25)).alloc (.cells #[.bool bb, .slice Ab nb cb] 25)) (w.heap.size + 1 + 1) (by simp) (.bool bc) (.slice Ac nc cc))
  go_enter Tryd.func7, Tryd.ntmps7
  have ka0 := ka.1
  have ka1 := ka.2
  have kb0 := kb.1
  have kb1 := kb.2
  have kc0 := kc.1
  have kc1 := kc.2
  go_wp2_with fail
  refine (rshort_yes ba Aa na ca _ _ (by omega)).mono ?_
  clear ka0 ka1 kb0 kb1 kc0 kc1
  rintro e w1 ⟨rfl, bb⟩
  have ha := ha.below bb
  have hb := hb.below bb
  have hc := hc.below bb
  have ka := ka.below bb
  have kb := kb.below bb
  have kc := kc.below bb
  have B0 := B0.trans (bb.mono B0.size)
  clear bb
  have ka0 := ka.1
  have ka1 := ka.2
  have kb0 := kb.1
  have kb1 := kb.2
  have kc0 := kc.1
  have kc1 := kc.2
  go_wp2_with fail
  refine (rshort_yes bb Ab nb cb _ _ (by omega)).mono ?_
  clear ka0 ka1 kb0 kb1 kc0 kc1
  rintro e w2 ⟨rfl, bb⟩
  have ha := ha.below bb
  have hb := hb.below bb
  have hc := hc.below bb
  have ka := ka.below bb
  have kb := kb.below bb
  have kc := kc.below bb
  have B0 := B0.trans (bb.mono B0.size)
  clear bb
  have ka0 := ka.1
  have ka1 := ka.2
  have kb0 := kb.1
  have kb1 := kb.2
  have kc0 := kc.1
  have kc1 := kc.2
  go_wp2_with fail
  refine (rshort_yes bc Ac nc cc _ _ (by omega)).mono ?_
  clear ka0 ka1 kb0 kb1 kc0 kc1
  rintro e w3 ⟨rfl, bb⟩
  have ha := ha.below bb
  have hb := hb.below bb
  have hc := hc.below bb
  have ka := ka.below bb
  have kb := kb.below bb
  have kc := kc.below bb
  have B0 := B0.trans (bb.mono B0.size)
  clear bb
  have hs : w.heap.size + 3 ≤ w3.heap.size := by have : w.heap.size + 1 + 1 < w3.heap.size := World.block_lt_of_cell? w3 _ kc.1; omega
  go_upto_region 3 with fail
  have s0 := hs
  have hs : Bw (w.heap.size + 3) w3 w3 := ⟨Below.refl _ _, hs⟩
  have HS : Hid (∀ w', Bw (w.heap.size + 3) w3 w' → w'.cell? ⟨w.heap.size, 0, none⟩ = some (.bool ba) ∧ w'.cell? ⟨w.heap.size, 1, none⟩ = some (.slice Aa na ca) ∧ w'.cell? ⟨w.heap.size + 1, 0, none⟩ = some (.bool bb) ∧ w'.cell? ⟨w.heap.size + 1, 1, none⟩ = some (.slice Ab nb cb) ∧ w'.cell? ⟨w.heap.size + 1 + 1, 0, none⟩ = some (.bool bc) ∧ w'.cell? ⟨w.heap.size + 1 + 1, 1, none⟩ = some (.slice Ac nc cc)) := by
    intro w' hb
    have e0 := hb.bx ka (by omega)
    have e1 := hb.bx kb (by omega)
    have e2 := hb.bx kc (by omega)
    exact ⟨e0.1, e0.2, e1.1, e1.2, e2.1, e2.2⟩
  go_cut [7, 8] (fun s5 s6 wx => Two (w.heap.size + 3) w3 (a + b) (a * b) (max na nb + 1) (na + nb) s5 s6 wx ∧ Iv wx (.agg #[.bool ba, .slice Aa na ca]) a na ∧ Iv wx (.agg #[.bool bb, .slice Ab nb cb]) b nb ∧ Iv wx (.agg #[.bool bc, .slice Ac nc cc]) c nc)
  case first =>
    clear ka kb kc
    go_region_held3 (fun w' => w'.cell? ⟨w.heap.size, 0, none⟩ = some (.bool ba) ∧ w'.cell? ⟨w.heap.size, 1, none⟩ = some (.slice Aa na ca) ∧ w'.cell? ⟨w.heap.size + 1, 0, none⟩ = some (.bool bb) ∧ w'.cell? ⟨w.heap.size + 1, 1, none⟩ = some (.slice Ab nb cb) ∧ w'.cell? ⟨w.heap.size + 1 + 1, 0, none⟩ = some (.bool bc) ∧ w'.cell? ⟨w.heap.size + 1 + 1, 1, none⟩ = some (.slice Ac nc cc))
      (first | exact HS.out _ hs | (refine HS.out _ ?_; repeat (first | exact hs | refine Bw.drew ?_ | exact hs.up ‹_› | refine Bw.alloc ?_ _ | refine Bw.set ?_ _ (by first | omega | (simp; omega)) _)))
      (first
        | (go_at_call 21; (first | (with_reducible refine (iadd_i ha.drew hb.drew ?_ ?_).mono ?_) | (with_reducible refine (iadd_i (ha.below (below_alloc _ _)).drew (hb.below (below_alloc _ _)).drew ?_ ?_).mono ?_) | (with_reducible refine (iadd_i ((ha.below (below_alloc _ _)).below (below_alloc _ _)).drew ((hb.below (below_alloc _ _)).below (below_alloc _ _)).drew ?_ ?_).mono ?_)); omega; omega; rintro e w1 ⟨v1, rfl, z1, bb⟩; (first | have ha := ha.drew.below bb | have ha := (ha.below (below_alloc _ _)).drew.below bb | have ha := ((ha.below (below_alloc _ _)).below (below_alloc _ _)).drew.below bb); (first | have hb := hb.drew.below bb | have hb := (hb.below (below_alloc _ _)).drew.below bb | have hb := ((hb.below (below_alloc _ _)).below (below_alloc _ _)).drew.below bb); (first | have hc := hc.drew.below bb | have hc := (hc.below (below_alloc _ _)).drew.below bb | have hc := ((hc.below (below_alloc _ _)).below (below_alloc _ _)).drew.below bb); (first | have hs := hs.drew.up bb | have hs := (hs.alloc _).drew.up bb | have hs := ((hs.alloc _).alloc _).drew.up bb); have s1 := hs.2; (first | (have p1 := ((Rx.new _ w3.heap.size (by rfl)).below (below_alloc _ _)).drew.below bb; have p2 := (Rx.new _ (w3.heap.size + 1) (by simp)).drew.below bb) | have p1 := (Rx.new _ w3.heap.size (by rfl)).drew.below bb | skip); (try obtain ⟨g1, g2, g3⟩ := p1.apart); (try obtain ⟨g4, g5, g6⟩ := p2.apart); clear bb)
        | (go_at_call 27; (first | (with_reducible refine (imul_i ha hb ?_ ?_).mono ?_) | (with_reducible refine (imul_i (ha.below (below_alloc _ _)) (hb.below (below_alloc _ _)) ?_ ?_).mono ?_) | (with_reducible refine (imul_i ((ha.below (below_alloc _ _)).below (below_alloc _ _)) ((hb.below (below_alloc _ _)).below (below_alloc _ _)) ?_ ?_).mono ?_)); omega; omega; rintro e w2 ⟨v2, rfl, z2, bb⟩; (first | have z1 := z1.below bb | have z1 := (z1.below (below_alloc _ _)).below bb | have z1 := ((z1.below (below_alloc _ _)).below (below_alloc _ _)).below bb); (first | have ha := ha.below bb | have ha := (ha.below (below_alloc _ _)).below bb | have ha := ((ha.below (below_alloc _ _)).below (below_alloc _ _)).below bb); (first | have hb := hb.below bb | have hb := (hb.below (below_alloc _ _)).below bb | have hb := ((hb.below (below_alloc _ _)).below (below_alloc _ _)).below bb); (first | have hc := hc.below bb | have hc := (hc.below (below_alloc _ _)).below bb | have hc := ((hc.below (below_alloc _ _)).below (below_alloc _ _)).below bb); (first | have hs := hs.up bb | have hs := (hs.alloc _).up bb | have hs := ((hs.alloc _).alloc _).up bb); have s2 := hs.2; (try (first | have p1 := p1.below bb | have p1 := (p1.below (below_alloc _ _)).below bb | have p1 := ((p1.below (below_alloc _ _)).below (below_alloc _ _)).below bb)); (try (first | have p2 := p2.below bb | have p2 := (p2.below (below_alloc _ _)).below bb | have p2 := ((p2.below (below_alloc _ _)).below (below_alloc _ _)).below bb)); (first | (have q1 := ((Rx.new _ w1.heap.size (by rfl)).below (below_alloc _ _)).below bb; have q2 := (Rx.new _ (w1.heap.size + 1) (by simp)).below bb) | have q1 := (Rx.new _ w1.heap.size (by rfl)).below bb | skip); (try (have f1h := p1.1; obtain ⟨f1e, f1f, f1g⟩ := p1.apart; have f1i := p1.2.1; have f1j := p1.2.2.1; have f1k := p1.2.2.2)); (try (have f2h := p2.1; obtain ⟨f2e, f2f, f2g⟩ := p2.apart; have f2i := p2.2.1; have f2j := p2.2.2.1; have f2k := p2.2.2.2)); (try (have d1h := q1.1; obtain ⟨d1e, d1f, d1g⟩ := q1.apart; have d1i := q1.2.1; have d1j := q1.2.2.1; have d1k := q1.2.2.2)); (try (have d2h := q2.1; obtain ⟨d2e, d2f, d2g⟩ := q2.apart; have d2i := q2.2.1; have d2j := q2.2.2.1; have d2k := q2.2.2.2)); obtain ⟨b1, A1, n1, c1, rfl, z1⟩ := z1.cells; obtain ⟨b2, A2, n2, c2, rfl, z2⟩ := z2.cells; clear bb))
    all_goals
      go_wp2_with fail
      go_meet
      refine ⟨⟨_, _, b1, A1, n1, c1, b2, A2, n2, c2, rfl, rfl, ?_, ?_, ?_, ?_, ?_⟩, ?_, ?_, ?_⟩
      all_goals
        repeat' (first | with_reducible assumption | (with_reducible exact Bx.new _ _ (by simp) _ _) | (with_reducible refine Bx.later ?_ _) | (with_reducible refine Rx.written ?_ _ _) | (with_reducible refine Bx.ret ?_ (by omega) _ _) | (with_reducible refine Iz.later ?_ _) | (with_reducible refine Iz.ret ?_ ?_ _ _) | (with_reducible refine Iv.later ?_ _) | (with_reducible refine Iv.ret ?_ ?_ _ _) | (with_reducible refine Rx.ret ?_ (by omega) _ _) | (with_reducible refine Bw.alloc ?_ _) | (with_reducible refine Bw.ret ?_ (by omega) _ _))
  case rest =>
    obtain ⟨⟨gx, gy, bx, Ax, nx, cx, by', Ay, ny, cy, rfl, rfl, kx, ky, zx, zy, hw⟩, ha, hb, hc⟩ := hcut
    have ka := hw.bx ka (by omega)
    have kb := hw.bx kb (by omega)
    have kc := hw.bx kc (by omega)
    clear HS
    have B0 := B0.trans (hw.1.mono (by omega))
    clear hw
    go_wp2_with fail
    have ha := ha.drew
    have hb := hb.drew
    have hc := hc.drew
    have ka := ka.drew
    have kb := kb.drew
    have kc := kc.drew
    have kx := kx.drew
    have ky := ky.drew
    have zx := zx.drew
    have zy := zy.drew
    have B0 := b_drew B0
    go_region_held3 (fun w' => w'.cell? ⟨w.heap.size, 0, none⟩ = some (.bool ba) ∧ w'.cell? ⟨w.heap.size, 1, none⟩ = some (.slice Aa na ca) ∧ w'.cell? ⟨w.heap.size + 1, 0, none⟩ = some (.bool bb) ∧ w'.cell? ⟨w.heap.size + 1, 1, none⟩ = some (.slice Ab nb cb) ∧ w'.cell? ⟨w.heap.size + 1 + 1, 0, none⟩ = some (.bool bc) ∧ w'.cell? ⟨w.heap.size + 1 + 1, 1, none⟩ = some (.slice Ac nc cc) ∧ w'.cell? ⟨gx, 0, none⟩ = some (.bool bx) ∧ w'.cell? ⟨gx, 1, none⟩ = some (.slice Ax nx cx) ∧ w'.cell? ⟨gy, 0, none⟩ = some (.bool by') ∧ w'.cell? ⟨gy, 1, none⟩ = some (.slice Ay ny cy)) (first | exact ⟨ka.1, ka.2, kb.1, kb.2, kc.1, kc.2, kx.1, kx.2, ky.1, ky.2⟩)
      (first
        | (go_at_call 21; (with_reducible refine (iadd_i hb ha ?_ ?_).mono ?_); omega; omega; rintro e w11 ⟨v1, rfl, z1, bb⟩; have ha := ha.below bb; have hb := hb.below bb; have hc := hc.below bb; have ka := ka.below bb; have kb := kb.below bb; have kc := kc.below bb; have kx := kx.below bb; have ky := ky.below bb; have zx := zx.below bb; have zy := zy.below bb; have B0 := B0.trans (bb.mono B0.size); clear bb)
        | (go_at_call 14; (with_reducible refine (isame_i zx z1 (Int.add_comm a b)).mono ?_); rintro e w12 ⟨rfl, bb⟩; have ha := ha.below bb; have hb := hb.below bb; have hc := hc.below bb; have ka := ka.below bb; have kb := kb.below bb; have kc := kc.below bb; have kx := kx.below bb; have ky := ky.below bb; have zx := zx.below bb; have zy := zy.below bb; have z1 := z1.below bb; have B0 := B0.trans (bb.mono B0.size); clear bb)
        | (go_at_call 27; (with_reducible refine (imul_i hb ha ?_ ?_).mono ?_); omega; omega; rintro e w13 ⟨v2, rfl, z2, bb⟩; have ha := ha.below bb; have hb := hb.below bb; have hc := hc.below bb; have ka := ka.below bb; have kb := kb.below bb; have kc := kc.below bb; have kx := kx.below bb; have ky := ky.below bb; have zx := zx.below bb; have zy := zy.below bb; have B0 := B0.trans (bb.mono B0.size); clear bb)
        | (go_at_call 14; (with_reducible refine (isame_i zy z2 (Int.mul_comm a b)).mono ?_); rintro e w14 ⟨rfl, bb⟩; have ha := ha.below bb; have hb := hb.below bb; have hc := hc.below bb; have ka := ka.below bb; have kb := kb.below bb; have kc := kc.below bb; have kx := kx.below bb; have ky := ky.below bb; have zx := zx.below bb; have zy := zy.below bb; have z2 := z2.below bb; have B0 := B0.trans (bb.mono B0.size); clear bb)
        | (go_at_call 21; (with_reducible refine (iadd_i zx.iv hc ?_ ?_).mono ?_); omega; omega; rintro e w15 ⟨v3, rfl, z3, bb⟩; have ha := ha.below bb; have hb := hb.below bb; have hc := hc.below bb; have ka := ka.below bb; have kb := kb.below bb; have kc := kc.below bb; have kx := kx.below bb; have ky := ky.below bb; have zx := zx.below bb; have zy := zy.below bb; have B0 := B0.trans (bb.mono B0.size); clear bb)
        | (go_at_call 21; (with_reducible refine (iadd_i hb hc ?_ ?_).mono ?_); omega; omega; rintro e w16 ⟨v4, rfl, z4, bb⟩; have ha := ha.below bb; have hb := hb.below bb; have hc := hc.below bb; have ka := ka.below bb; have kb := kb.below bb; have kc := kc.below bb; have kx := kx.below bb; have ky := ky.below bb; have zx := zx.below bb; have zy := zy.below bb; have z3 := z3.below bb; have B0 := B0.trans (bb.mono B0.size); clear bb)
        | (go_at_call 21; (with_reducible refine (iadd_i ha z4.iv ?_ ?_).mono ?_); omega; omega; rintro e w17 ⟨v5, rfl, z5, bb⟩; have ha := ha.below bb; have hb := hb.below bb; have hc := hc.below bb; have ka := ka.below bb; have kb := kb.below bb; have kc := kc.below bb; have kx := kx.below bb; have ky := ky.below bb; have zx := zx.below bb; have zy := zy.below bb; have z3 := z3.below bb; have z4 := z4.below bb; have B0 := B0.trans (bb.mono B0.size); clear bb)
        | (go_at_call 14; (with_reducible refine (isame_i z3 z5 (Int.add_assoc a b c)).mono ?_); rintro e w18 ⟨rfl, bb⟩; have ha := ha.below bb; have hb := hb.below bb; have hc := hc.below bb; have ka := ka.below bb; have kb := kb.below bb; have kc := kc.below bb; have kx := kx.below bb; have ky := ky.below bb; have zx := zx.below bb; have zy := zy.below bb; have z3 := z3.below bb; have z4 := z4.below bb; have z5 := z5.below bb; have B0 := B0.trans (bb.mono B0.size); clear bb)
        | (go_at_call 27; (with_reducible refine (imul_i zy.iv hc ?_ ?_).mono ?_); omega; omega; rintro e w19 ⟨v6, rfl, z6, bb⟩; have ha := ha.below bb; have hb := hb.below bb; have hc := hc.below bb; have ka := ka.below bb; have kb := kb.below bb; have kc := kc.below bb; have kx := kx.below bb; have ky := ky.below bb; have zx := zx.below bb; have zy := zy.below bb; have B0 := B0.trans (bb.mono B0.size); clear bb)
        | (go_at_call 27; (with_reducible refine (imul_i hb hc ?_ ?_).mono ?_); omega; omega; rintro e w20 ⟨v7, rfl, z7, bb⟩; have ha := ha.below bb; have hb := hb.below bb; have hc := hc.below bb; have ka := ka.below bb; have kb := kb.below bb; have kc := kc.below bb; have kx := kx.below bb; have ky := ky.below bb; have zx := zx.below bb; have zy := zy.below bb; have z6 := z6.below bb; have B0 := B0.trans (bb.mono B0.size); clear bb)
        | (go_at_call 27; (with_reducible refine (imul_i ha z7.iv ?_ ?_).mono ?_); omega; omega; rintro e w21 ⟨v8, rfl, z8, bb⟩; have ha := ha.below bb; have hb := hb.below bb; have hc := hc.below bb; have ka := ka.below bb; have kb := kb.below bb; have kc := kc.below bb; have kx := kx.below bb; have ky := ky.below bb; have zx := zx.below bb; have zy := zy.below bb; have z6 := z6.below bb; have z7 := z7.below bb; have B0 := B0.trans (bb.mono B0.size); clear bb)
        | (go_at_call 14; (with_reducible refine (isame_i z6 z8 (Int.mul_assoc a b c)).mono ?_); rintro e w22 ⟨rfl, bb⟩; have ha := ha.below bb; have hb := hb.below bb; have hc := hc.below bb; have ka := ka.below bb; have kb := kb.below bb; have kc := kc.below bb; have kx := kx.below bb; have ky := ky.below bb; have zx := zx.below bb; have zy := zy.below bb; have z6 := z6.below bb; have z7 := z7.below bb; have z8 := z8.below bb; have B0 := B0.trans (bb.mono B0.size); clear bb))
    go_wp2_with fail
    have ha := ha.drew
    have hb := hb.drew
    have hc := hc.drew
    have ka := ka.drew
    have kb := kb.drew
    have kc := kc.drew
    have kx := kx.drew
    have zx := zx.drew
    have B0 := b_drew B0
    go_region_held3 (fun w' => w'.cell? ⟨w.heap.size, 0, none⟩ = some (.bool ba) ∧ w'.cell? ⟨w.heap.size, 1, none⟩ = some (.slice Aa na ca) ∧ w'.cell? ⟨w.heap.size + 1, 0, none⟩ = some (.bool bb) ∧ w'.cell? ⟨w.heap.size + 1, 1, none⟩ = some (.slice Ab nb cb) ∧ w'.cell? ⟨w.heap.size + 1 + 1, 0, none⟩ = some (.bool bc) ∧ w'.cell? ⟨w.heap.size + 1 + 1, 1, none⟩ = some (.slice Ac nc cc) ∧ w'.cell? ⟨gx, 0, none⟩ = some (.bool bx) ∧ w'.cell? ⟨gx, 1, none⟩ = some (.slice Ax nx cx)) (first | exact ⟨ka.1, ka.2, kb.1, kb.2, kc.1, kc.2, kx.1, kx.2⟩)
      (first
        | (go_at_call 27; (with_reducible refine (imul_i zx.iv hc ?_ ?_).mono ?_); omega; omega; rintro e w23 ⟨v1, rfl, z1, bb⟩; have ha := ha.below bb; have hb := hb.below bb; have hc := hc.below bb; have ka := ka.below bb; have kb := kb.below bb; have kc := kc.below bb; have kx := kx.below bb; have zx := zx.below bb; have B0 := B0.trans (bb.mono B0.size); clear bb)
        | (go_at_call 27; (with_reducible refine (imul_i ha hc ?_ ?_).mono ?_); omega; omega; rintro e w24 ⟨v2, rfl, z2, bb⟩; have ha := ha.below bb; have hb := hb.below bb; have hc := hc.below bb; have ka := ka.below bb; have kb := kb.below bb; have kc := kc.below bb; have kx := kx.below bb; have zx := zx.below bb; have z1 := z1.below bb; have B0 := B0.trans (bb.mono B0.size); clear bb)
        | (go_at_call 27; (with_reducible refine (imul_i hb hc ?_ ?_).mono ?_); omega; omega; rintro e w25 ⟨v3, rfl, z3, bb⟩; have ha := ha.below bb; have hb := hb.below bb; have hc := hc.below bb; have ka := ka.below bb; have kb := kb.below bb; have kc := kc.below bb; have kx := kx.below bb; have zx := zx.below bb; have z1 := z1.below bb; have z2 := z2.below bb; have B0 := B0.trans (bb.mono B0.size); clear bb)
        | (go_at_call 21; (with_reducible refine (iadd_i z2.iv z3.iv ?_ ?_).mono ?_); omega; omega; rintro e w26 ⟨v4, rfl, z4, bb⟩; have ha := ha.below bb; have hb := hb.below bb; have hc := hc.below bb; have ka := ka.below bb; have kb := kb.below bb; have kc := kc.below bb; have kx := kx.below bb; have zx := zx.below bb; have z1 := z1.below bb; have z2 := z2.below bb; have z3 := z3.below bb; have B0 := B0.trans (bb.mono B0.size); clear bb)
        | (go_at_call 14; (with_reducible refine (isame_i z1 z4 (Int.add_mul a b c)).mono ?_); rintro e w27 ⟨rfl, bb⟩; have ha := ha.below bb; have hb := hb.below bb; have hc := hc.below bb; have ka := ka.below bb; have kb := kb.below bb; have kc := kc.below bb; have kx := kx.below bb; have zx := zx.below bb; have z1 := z1.below bb; have z2 := z2.below bb; have z3 := z3.below bb; have z4 := z4.below bb; have B0 := B0.trans (bb.mono B0.size); clear bb)
        | (go_at_call 23; (with_reducible refine (isub_i zx.iv hb ?_ ?_).mono ?_); omega; omega; rintro e w28 ⟨v5, rfl, z5, bb⟩; have ha := ha.below bb; have hb := hb.below bb; have hc := hc.below bb; have ka := ka.below bb; have kb := kb.below bb; have kc := kc.below bb; have kx := kx.below bb; have zx := zx.below bb; have B0 := B0.trans (bb.mono B0.size); clear bb)
        | (go_at_call 15; (with_reducible refine (inorm_i ha ?_).mono ?_); omega; rintro e w29 ⟨v6, rfl, z6, bb⟩; have ha := ha.below bb; have hb := hb.below bb; have hc := hc.below bb; have ka := ka.below bb; have kb := kb.below bb; have kc := kc.below bb; have kx := kx.below bb; have zx := zx.below bb; have z5 := z5.below bb; have B0 := B0.trans (bb.mono B0.size); clear bb)
        | (go_at_call 14; (with_reducible refine (isame_i z5 z6 (Int.add_sub_cancel a b)).mono ?_); rintro e w30 ⟨rfl, bb⟩; have ha := ha.below bb; have hb := hb.below bb; have hc := hc.below bb; have ka := ka.below bb; have kb := kb.below bb; have kc := kc.below bb; have kx := kx.below bb; have zx := zx.below bb; have z5 := z5.below bb; have z6 := z6.below bb; have B0 := B0.trans (bb.mono B0.size); clear bb))
    go_wp2_with fail
    have ha := ha.drew
    have ka := ka.drew
    have B0 := b_drew B0
    go_region_held3 (fun w' => w'.cell? ⟨w.heap.size, 0, none⟩ = some (.bool ba) ∧ w'.cell? ⟨w.heap.size, 1, none⟩ = some (.slice Aa na ca)) (first | exact ⟨ka.1, ka.2⟩)
      (first
        | (go_at_call 36; (with_reducible refine (iof_i 1 (by decide) (by decide) _).mono ?_); rintro e w31 ⟨v1, rfl, z1, bb⟩; have ha := ha.below bb; have ka := ka.below bb; have B0 := B0.trans (bb.mono B0.size); clear bb)
        | (go_at_call 27; (with_reducible refine (imul_i ha z1.iv ?_ ?_).mono ?_); omega; omega; rintro e w32 ⟨v2, rfl, z2, bb⟩; have ha := ha.below bb; have ka := ka.below bb; have z1 := z1.below bb; have B0 := B0.trans (bb.mono B0.size); clear bb)
        | (go_at_call 15; (with_reducible refine (inorm_i ha ?_).mono ?_); omega; rintro e w33 ⟨v3, rfl, z3, bb⟩; have ha := ha.below bb; have ka := ka.below bb; have z1 := z1.below bb; have z2 := z2.below bb; have B0 := B0.trans (bb.mono B0.size); clear bb)
        | (go_at_call 14; (with_reducible refine (isame_i z2 z3 (Int.mul_one a)).mono ?_); rintro e w34 ⟨rfl, bb⟩; have ha := ha.below bb; have ka := ka.below bb; have z1 := z1.below bb; have z2 := z2.below bb; have z3 := z3.below bb; have B0 := B0.trans (bb.mono B0.size); clear bb)
        | (go_at_call 19; (with_reducible refine (ineg_i ha ?_).mono ?_); omega; rintro e w35 ⟨v4, rfl, z4, bb⟩; have ha := ha.below bb; have ka := ka.below bb; have B0 := B0.trans (bb.mono B0.size); clear bb)
        | (go_at_call 21; (with_reducible refine (iadd_i ha z4.iv ?_ ?_).mono ?_); omega; omega; rintro e w36 ⟨v5, rfl, z5, bb⟩; have ha := ha.below bb; have ka := ka.below bb; have z4 := z4.below bb; have B0 := B0.trans (bb.mono B0.size); clear bb)
        | (go_at_call 36; (with_reducible refine (iof_i 0 (by decide) (by decide) _).mono ?_); rintro e w37 ⟨v6, rfl, z6, bb⟩; have ha := ha.below bb; have ka := ka.below bb; have z4 := z4.below bb; have z5 := z5.below bb; have B0 := B0.trans (bb.mono B0.size); clear bb)
        | (go_at_call 14; (with_reducible refine (isame_i z5 z6 (Int.add_right_neg a)).mono ?_); rintro e w38 ⟨rfl, bb⟩; have ha := ha.below bb; have ka := ka.below bb; have z4 := z4.below bb; have z5 := z5.below bb; have z6 := z6.below bb; have B0 := B0.trans (bb.mono B0.size); clear bb)
        | (go_at_call 13; (with_reducible refine (awake_walk _ (HT.out.below B0)).mono ?_); rintro e w39 ⟨rfl, bb⟩; have ha := ha.below bb; have ka := ka.below bb; have B0 := B0.trans (bb.mono B0.size); clear bb))
    go_wp2
    go_ret
    exact ⟨rfl, B0⟩
theorem integerRing_walk {va : Value} {a : Int} {ka : Nat} {vb : Value} {b : Int} {kb : Nat} {vc : Value} {c : Int} {kc : Nat} (w : World) (ha : Iv w va a ka) (hb : Iv w vb b kb) (hc : Iv w vc c kc) (ht : Tab w) : Calls Tryd.prog 7 #[va, vb, vc] w (BoolEnd true w) := by
  obtain ⟨ba, Aa, na, ca, rfl, _, ha⟩ := ha.named
  obtain ⟨bb, Ab, nb, cb, rfl, _, hb⟩ := hb.named
  obtain ⟨bc, Ac, nc, cc, rfl, _, hc⟩ := hc.named
  by_cases la : 20 < na
  · exact integerRing_long_a w la ht
  by_cases lb : 20 < nb
  · exact integerRing_long_b w (by omega) lb ht
  by_cases lc : 20 < nc
  · exact integerRing_long_c w (by omega) (by omega) lc ht
  exact integerRing_body w ha hb hc (by omega) (by omega) (by omega) ht
end Go.Proofs.YthcoemkbdllcfaaDoor
