/-
  The walk of garmentlaw02.IntegerDivides: it returns true, whatever the integers.
-/
import Derived.Test.YthcoemkbdllcfaaDoorLawA
namespace Go.Proofs.YthcoemkbdllcfaaDoor
open Go.RowKit
attribute [local go_sem ↓] Go.wp_at_zero Go.wp_at_succ
set_option linter.unusedVariables false

theorem Iv.size {w : World} {b : Bool} {A : Option Addr} {n c k : Nat} {z : Int} (h : Iv w (.agg #[.bool b, .slice A n c]) z k) : Iv w (.agg #[.bool false, .slice A n c]) (z.natAbs : Int) k := by
  obtain ⟨b', A', n', c', m, e, h1, h2⟩ := h
  simp only [Value.agg.injEq, Array.mk.injEq, List.cons.injEq, Value.bool.injEq, Value.slice.injEq, and_true] at e
  obtain ⟨rfl, rfl, rfl, rfl⟩ := e
  exact ⟨false, A, n, c, m, rfl, h1, by rw [h2, sgn_abs]; rfl⟩
set_option maxRecDepth 20000 in
set_option maxHeartbeats 8000000 in
theorem integerDivides_long_a {ba : Bool} {Aa : Option Addr} {na ca : Nat} {bb : Bool} {Ab : Option Addr} {nb cb : Nat} (w : World) (hl : 30 < na) (ht : Tab w) :
    Calls Tryd.prog 8 #[.agg #[.bool ba, .slice Aa na ca], .agg #[.bool bb, .slice Ab nb cb]] w (BoolEnd true w) := by
  have HT := Lib.hid ht
  clear ht
  have B0 := below_a2 w (.cells #[.bool ba, .slice Aa na ca] 25) (.cells #[.bool bb, .slice Ab nb cb] 25)
  have ka := ((Bx.new w (w.heap.size) (by simp) (.bool ba) (.slice Aa na ca)).below (below_alloc (w.alloc (.cells #[.bool ba, .slice Aa na ca] 25)) (.cells #[.bool bb, .slice Ab nb cb] 25)))
  have kb := (Bx.new (w.alloc (.cells #[.bool ba, .slice Aa na ca] 25)) (w.heap.size + 1) (by simp) (.bool bb) (.slice Ab nb cb))
  go_enter Tryd.func8, Tryd.ntmps8
  have ka0 := ka.1
  have ka1 := ka.2
  have kb0 := kb.1
  have kb1 := kb.2
  go_wp2_with fail
  refine (rshort_no ba Aa na ca _ _ (by omega)).mono ?_
  clear ka0 ka1 kb0 kb1
  rintro e w1 ⟨rfl, bb⟩
  have ka := ka.below bb
  have kb := kb.below bb
  have B0 := B0.trans (bb.mono B0.size)
  clear bb
  have ka0 := ka.1
  have ka1 := ka.2
  have kb0 := kb.1
  have kb1 := kb.2
  go_wp2_with fail
  refine (awake_walk _ (HT.out.below B0)).mono ?_
  clear ka0 ka1 kb0 kb1
  rintro e w2 ⟨rfl, bb⟩
  have ka := ka.below bb
  have kb := kb.below bb
  have B0 := B0.trans (bb.mono B0.size)
  clear bb
  go_wp2
  go_ret
  exact ⟨rfl, B0⟩
set_option maxRecDepth 20000 in
set_option maxHeartbeats 8000000 in
theorem integerDivides_long_b {ba : Bool} {Aa : Option Addr} {na ca : Nat} {bb : Bool} {Ab : Option Addr} {nb cb : Nat} (w : World) (ha : na ≤ 30) (hl : 30 < nb) (ht : Tab w) :
    Calls Tryd.prog 8 #[.agg #[.bool ba, .slice Aa na ca], .agg #[.bool bb, .slice Ab nb cb]] w (BoolEnd true w) := by
  have HT := Lib.hid ht
  clear ht
  have B0 := below_a2 w (.cells #[.bool ba, .slice Aa na ca] 25) (.cells #[.bool bb, .slice Ab nb cb] 25)
  have ka := ((Bx.new w (w.heap.size) (by simp) (.bool ba) (.slice Aa na ca)).below (below_alloc (w.alloc (.cells #[.bool ba, .slice Aa na ca] 25)) (.cells #[.bool bb, .slice Ab nb cb] 25)))
  have kb := (Bx.new (w.alloc (.cells #[.bool ba, .slice Aa na ca] 25)) (w.heap.size + 1) (by simp) (.bool bb) (.slice Ab nb cb))
  go_enter Tryd.func8, Tryd.ntmps8
  have ka0 := ka.1
  have ka1 := ka.2
  have kb0 := kb.1
  have kb1 := kb.2
  go_wp2_with fail
  refine (rshort_yes ba Aa na ca _ _ (by omega)).mono ?_
  clear ka0 ka1 kb0 kb1
  rintro e w1 ⟨rfl, bb⟩
  have ka := ka.below bb
  have kb := kb.below bb
  have B0 := B0.trans (bb.mono B0.size)
  clear bb
  have ka0 := ka.1
  have ka1 := ka.2
  have kb0 := kb.1
  have kb1 := kb.2
  go_wp2_with fail
  refine (rshort_no bb Ab nb cb _ _ (by omega)).mono ?_
  clear ka0 ka1 kb0 kb1
  rintro e w2 ⟨rfl, bb⟩
  have ka := ka.below bb
  have kb := kb.below bb
  have B0 := B0.trans (bb.mono B0.size)
  clear bb
  have ka0 := ka.1
  have ka1 := ka.2
  have kb0 := kb.1
  have kb1 := kb.2
  go_wp2_with fail
  refine (awake_walk _ (HT.out.below B0)).mono ?_
  clear ka0 ka1 kb0 kb1
  rintro e w3 ⟨rfl, bb⟩
  have ka := ka.below bb
  have kb := kb.below bb
  have B0 := B0.trans (bb.mono B0.size)
  clear bb
  go_wp2
  go_ret
  exact ⟨rfl, B0⟩
set_option maxRecDepth 20000 in
set_option maxHeartbeats 8000000 in
theorem integerDivides_zero {ba : Bool} {Aa : Option Addr} {na ca : Nat} {bb : Bool} {Ab : Option Addr} {nb cb : Nat} {a : Int} {b : Int} (w : World) (ha : Iv w (.agg #[.bool ba, .slice Aa na ca]) a na)  (hb : Iv w (.agg #[.bool bb, .slice Ab nb cb]) b nb) (h1 : na ≤ 30) (h2 : nb ≤ 30) (h0 : b = 0) (ht : Tab w) :
    Calls Tryd.prog 8 #[.agg #[.bool ba, .slice Aa na ca], .agg #[.bool bb, .slice Ab nb cb]] w (BoolEnd true w) := by
  have HT := Lib.hid ht
  clear ht
  have H0 := Lib.hid h0
  have hc0 : cmpZ b 0 = 0 := by rw [h0]; rfl
  have HC := Lib.hid hc0
  clear h0 hc0
  have B0 := below_a2 w (.cells #[.bool ba, .slice Aa na ca] 25) (.cells #[.bool bb, .slice Ab nb cb] 25)
  have ha := ha.below B0
  have hb := hb.below B0
  have ka := ((Bx.new w (w.heap.size) (by simp) (.bool ba) (.slice Aa na ca)).below (below_alloc (w.alloc (.cells #[.bool ba, .slice Aa na ca] 25)) (.cells #[.bool bb, .slice Ab nb cb] 25)))
  have kb := (Bx.new (w.alloc (.cells #[.bool ba, .slice Aa na ca] 25)) (w.heap.size + 1) (by simp) (.bool bb) (.slice Ab nb cb))
  go_enter Tryd.func8, Tryd.ntmps8
  have ka0 := ka.1
  have ka1 := ka.2
  have kb0 := kb.1
  have kb1 := kb.2
  go_wp2_with fail
  refine (rshort_yes ba Aa na ca _ _ (by omega)).mono ?_
  clear ka0 ka1 kb0 kb1
  rintro e w1 ⟨rfl, bb⟩
  have ha := ha.below bb
  have hb := hb.below bb
  have ka := ka.below bb
  have kb := kb.below bb
  have B0 := B0.trans (bb.mono B0.size)
  clear bb
  have ka0 := ka.1
  have ka1 := ka.2
  have kb0 := kb.1
  have kb1 := kb.2
  go_wp2_with fail
  refine (rshort_yes bb Ab nb cb _ _ (by omega)).mono ?_
  clear ka0 ka1 kb0 kb1
  rintro e w2 ⟨rfl, bb⟩
  have ha := ha.below bb
  have hb := hb.below bb
  have ka := ka.below bb
  have kb := kb.below bb
  have B0 := B0.trans (bb.mono B0.size)
  clear bb
  have ka0 := ka.1
  have ka1 := ka.2
  have kb0 := kb.1
  have kb1 := kb.2
  go_wp2_with fail
  refine (idiv_i0 ha hb (by omega) (by omega) H0.out).mono ?_
  clear ka0 ka1 kb0 kb1
  rintro e w3 ⟨rfl, bb⟩
  have ha := ha.below bb
  have hb := hb.below bb
  have ka := ka.below bb
  have kb := kb.below bb
  have B0 := B0.trans (bb.mono B0.size)
  clear bb
  have ha := ha.below (below_alloc w3 (.cells #[.bool false, .slice none 0 0] 25))
  have hb := hb.below (below_alloc w3 (.cells #[.bool false, .slice none 0 0] 25))
  have kb := kb.below (below_alloc w3 (.cells #[.bool false, .slice none 0 0] 25))
  have kq := Bx.new w3 (w3.heap.size) (by simp) (.bool false) (.slice none 0 0)
  have B0 := B0.trans ((below_alloc w3 (.cells #[.bool false, .slice none 0 0] 25)).mono B0.size)
  have ha := ha.below (below_alloc (w3.alloc (.cells #[.bool false, .slice none 0 0] 25)) (.cells #[.bool false, .slice none 0 0] 25))
  have hb := hb.below (below_alloc (w3.alloc (.cells #[.bool false, .slice none 0 0] 25)) (.cells #[.bool false, .slice none 0 0] 25))
  have kb := kb.below (below_alloc (w3.alloc (.cells #[.bool false, .slice none 0 0] 25)) (.cells #[.bool false, .slice none 0 0] 25))
  have kq := kq.below (below_alloc (w3.alloc (.cells #[.bool false, .slice none 0 0] 25)) (.cells #[.bool false, .slice none 0 0] 25))
  have kr := Bx.new (w3.alloc (.cells #[.bool false, .slice none 0 0] 25)) (w3.heap.size + 1) (by simp) (.bool false) (.slice none 0 0)
  have B0 := B0.trans ((below_alloc (w3.alloc (.cells #[.bool false, .slice none 0 0] 25)) (.cells #[.bool false, .slice none 0 0] 25)).mono B0.size)
  go_wp2_with fail
  have ha := ha.drew
  have hb := hb.drew
  have kb := kb.drew
  have kq := kq.drew
  have kr := kr.drew
  have B0 := b_drew B0
  go_region_held3 (fun w' => w'.cell? ⟨w.heap.size + 1, 0, none⟩ = some (.bool bb) ∧ w'.cell? ⟨w.heap.size + 1, 1, none⟩ = some (.slice Ab nb cb) ∧ w'.cell? ⟨w3.heap.size, 0, none⟩ = some (.bool false) ∧ w'.cell? ⟨w3.heap.size, 1, none⟩ = some (.slice none 0 0) ∧ w'.cell? ⟨w3.heap.size + 1, 0, none⟩ = some (.bool false) ∧ w'.cell? ⟨w3.heap.size + 1, 1, none⟩ = some (.slice none 0 0)) (first | exact ⟨kb.1, kb.2, kq.1, kq.2, kr.1, kr.2⟩)
    (first
      | (go_at_call 36; (with_reducible refine (iof_i 0 (by decide) (by decide) _).mono ?_); rintro e w4 ⟨v1, rfl, z1, bb⟩; have ha := ha.below bb; have hb := hb.below bb; have kb := kb.below bb; have kq := kq.below bb; have kr := kr.below bb; have B0 := B0.trans (bb.mono B0.size); clear bb)
      | (go_at_call 17; (with_reducible refine (icmp_i hb z1.iv 0 HC.out).mono ?_); rintro e w5 ⟨rfl, bb⟩; have ha := ha.below bb; have hb := hb.below bb; have kb := kb.below bb; have kq := kq.below bb; have kr := kr.below bb; have z1 := z1.below bb; have B0 := B0.trans (bb.mono B0.size); clear bb)
      | (go_at_call 14; (with_reducible refine (isame_i (zero_iz _) (zero_iz _) (rfl)).mono ?_); rintro e w6 ⟨rfl, bb⟩; have ha := ha.below bb; have hb := hb.below bb; have kb := kb.below bb; have kq := kq.below bb; have kr := kr.below bb; have B0 := B0.trans (bb.mono B0.size); clear bb)
      | (go_at_call 14; (with_reducible refine (isame_i (zero_iz _) (zero_iz _) (rfl)).mono ?_); rintro e w7 ⟨rfl, bb⟩; have ha := ha.below bb; have hb := hb.below bb; have kb := kb.below bb; have kq := kq.below bb; have kr := kr.below bb; have B0 := B0.trans (bb.mono B0.size); clear bb)
      | (go_at_call 13; (with_reducible refine (awake_walk _ (HT.out.below B0)).mono ?_); rintro e w8 ⟨rfl, bb⟩; have ha := ha.below bb; have hb := hb.below bb; have kb := kb.below bb; have kq := kq.below bb; have kr := kr.below bb; have B0 := B0.trans (bb.mono B0.size); clear bb))
  go_wp2
  go_ret
  exact ⟨rfl, B0⟩
set_option maxRecDepth 20000 in
set_option maxHeartbeats 8000000 in
theorem integerDivides_pos {ba : Bool} {Aa : Option Addr} {na ca : Nat} {bb : Bool} {Ab : Option Addr} {nb cb : Nat} {a : Int} {b : Int} (w : World) (ha : Iv w (.agg #[.bool ba, .slice Aa na ca]) a na)  (hb : Iv w (.agg #[.bool bb, .slice Ab nb cb]) b nb) (h1 : na ≤ 30) (h2 : nb ≤ 30) (h0 : b ≠ 0) (ht : Tab w) :
    Calls Tryd.prog 8 #[.agg #[.bool ba, .slice Aa na ca], .agg #[.bool bb, .slice Ab nb cb]] w (BoolEnd true w) := by
  have HT := Lib.hid ht
  clear ht
  have H0 := Lib.hid h0
  obtain ⟨o, ho, ho1⟩ : ∃ o, cmpZ (a % b) 0 = o ∧ 0 ≤ o := ⟨_, rfl, by have h1 := Int.emod_nonneg a h0; have h2 := cmpZ_cases (a % b) 0; omega⟩
  have HO := Lib.hid ho
  have hp : cmpZ (a % b) (b.natAbs : Int) = -1 := by have h1 := Int.emod_lt a h0; have h2 := cmpZ_cases (a % b) (b.natAbs : Int); omega
  have HP := Lib.hid hp
  have hdo : decide (0 ≤ o) = true := decide_eq_true ho1
  clear h0 ho hp
  have B0 := below_a2 w (.cells #[.bool ba, .slice Aa na ca] 25) (.cells #[.bool bb, .slice Ab nb cb] 25)
  have ha := ha.below B0
  have hb := hb.below B0
  have ka := ((Bx.new w (w.heap.size) (by simp) (.bool ba) (.slice Aa na ca)).below (below_alloc (w.alloc (.cells #[.bool ba, .slice Aa na ca] 25)) (.cells #[.bool bb, .slice Ab nb cb] 25)))
  have kb := (Bx.new (w.alloc (.cells #[.bool ba, .slice Aa na ca] 25)) (w.heap.size + 1) (by simp) (.bool bb) (.slice Ab nb cb))
  go_enter Tryd.func8, Tryd.ntmps8
  have ka0 := ka.1
  have ka1 := ka.2
  have kb0 := kb.1
  have kb1 := kb.2
  go_wp2_with fail
  refine (rshort_yes ba Aa na ca _ _ (by omega)).mono ?_
  clear ka0 ka1 kb0 kb1
  rintro e w1 ⟨rfl, bb⟩
  have ha := ha.below bb
  have hb := hb.below bb
  have ka := ka.below bb
  have kb := kb.below bb
  have B0 := B0.trans (bb.mono B0.size)
  clear bb
  have ka0 := ka.1
  have ka1 := ka.2
  have kb0 := kb.1
  have kb1 := kb.2
  go_wp2_with fail
  refine (rshort_yes bb Ab nb cb _ _ (by omega)).mono ?_
  clear ka0 ka1 kb0 kb1
  rintro e w2 ⟨rfl, bb⟩
  have ha := ha.below bb
  have hb := hb.below bb
  have ka := ka.below bb
  have kb := kb.below bb
  have B0 := B0.trans (bb.mono B0.size)
  clear bb
  have ka0 := ka.1
  have ka1 := ka.2
  have kb0 := kb.1
  have kb1 := kb.2
  go_wp2_with fail
  refine (idiv_i ha hb (by omega) (by omega) H0.out).mono ?_
  clear ka0 ka1 kb0 kb1
  rintro e w3 ⟨vq, vr, rfl, zq, zr, bb⟩
  have ha := ha.below bb
  have hb := hb.below bb
  have ka := ka.below bb
  have kb := kb.below bb
  have B0 := B0.trans (bb.mono B0.size)
  clear bb
  obtain ⟨bzq, Azq, nzq, czq, rfl, zq⟩ := zq.cells
  obtain ⟨bzr, Azr, nzr, czr, rfl, zr⟩ := zr.cells
  have ha := ha.below (below_alloc w3 (.cells #[.bool bzq, .slice Azq nzq czq] 25))
  have hb := hb.below (below_alloc w3 (.cells #[.bool bzq, .slice Azq nzq czq] 25))
  have ka := ka.below (below_alloc w3 (.cells #[.bool bzq, .slice Azq nzq czq] 25))
  have kb := kb.below (below_alloc w3 (.cells #[.bool bzq, .slice Azq nzq czq] 25))
  have zq := zq.below (below_alloc w3 (.cells #[.bool bzq, .slice Azq nzq czq] 25))
  have zr := zr.below (below_alloc w3 (.cells #[.bool bzq, .slice Azq nzq czq] 25))
  have kq := Bx.new w3 (w3.heap.size) (by simp) (.bool bzq) (.slice Azq nzq czq)
  have B0 := B0.trans ((below_alloc w3 (.cells #[.bool bzq, .slice Azq nzq czq] 25)).mono B0.size)
  have ha := ha.below (below_alloc (w3.alloc (.cells #[.bool bzq, .slice Azq nzq czq] 25)) (.cells #[.bool bzr, .slice Azr nzr czr] 25))
  have hb := hb.below (below_alloc (w3.alloc (.cells #[.bool bzq, .slice Azq nzq czq] 25)) (.cells #[.bool bzr, .slice Azr nzr czr] 25))
  have ka := ka.below (below_alloc (w3.alloc (.cells #[.bool bzq, .slice Azq nzq czq] 25)) (.cells #[.bool bzr, .slice Azr nzr czr] 25))
  have kb := kb.below (below_alloc (w3.alloc (.cells #[.bool bzq, .slice Azq nzq czq] 25)) (.cells #[.bool bzr, .slice Azr nzr czr] 25))
  have zq := zq.below (below_alloc (w3.alloc (.cells #[.bool bzq, .slice Azq nzq czq] 25)) (.cells #[.bool bzr, .slice Azr nzr czr] 25))
  have zr := zr.below (below_alloc (w3.alloc (.cells #[.bool bzq, .slice Azq nzq czq] 25)) (.cells #[.bool bzr, .slice Azr nzr czr] 25))
  have kq := kq.below (below_alloc (w3.alloc (.cells #[.bool bzq, .slice Azq nzq czq] 25)) (.cells #[.bool bzr, .slice Azr nzr czr] 25))
  have kr := Bx.new (w3.alloc (.cells #[.bool bzq, .slice Azq nzq czq] 25)) (w3.heap.size + 1) (by simp) (.bool bzr) (.slice Azr nzr czr)
  have B0 := B0.trans ((below_alloc (w3.alloc (.cells #[.bool bzq, .slice Azq nzq czq] 25)) (.cells #[.bool bzr, .slice Azr nzr czr] 25)).mono B0.size)
  have ka0 := ka.1
  have ka1 := ka.2
  have kb0 := kb.1
  have kb1 := kb.2
  have kq0 := kq.1
  have kq1 := kq.2
  have kr0 := kr.1
  have kr1 := kr.2
  go_wp2_with fail
  clear ka0 ka1 kb0 kb1 kq0 kq1 kr0 kr1
  have hsz := hb.size
  have ha := ha.below (below_alloc ((w3.alloc (.cells #[.bool bzq, .slice Azq nzq czq] 25)).alloc (.cells #[.bool bzr, .slice Azr nzr czr] 25)) (.cells #[.bool false, .slice Ab nb cb] 25))
  have hb := hb.below (below_alloc ((w3.alloc (.cells #[.bool bzq, .slice Azq nzq czq] 25)).alloc (.cells #[.bool bzr, .slice Azr nzr czr] 25)) (.cells #[.bool false, .slice Ab nb cb] 25))
  have ka := ka.below (below_alloc ((w3.alloc (.cells #[.bool bzq, .slice Azq nzq czq] 25)).alloc (.cells #[.bool bzr, .slice Azr nzr czr] 25)) (.cells #[.bool false, .slice Ab nb cb] 25))
  have kb := kb.below (below_alloc ((w3.alloc (.cells #[.bool bzq, .slice Azq nzq czq] 25)).alloc (.cells #[.bool bzr, .slice Azr nzr czr] 25)) (.cells #[.bool false, .slice Ab nb cb] 25))
  have zq := zq.below (below_alloc ((w3.alloc (.cells #[.bool bzq, .slice Azq nzq czq] 25)).alloc (.cells #[.bool bzr, .slice Azr nzr czr] 25)) (.cells #[.bool false, .slice Ab nb cb] 25))
  have zr := zr.below (below_alloc ((w3.alloc (.cells #[.bool bzq, .slice Azq nzq czq] 25)).alloc (.cells #[.bool bzr, .slice Azr nzr czr] 25)) (.cells #[.bool false, .slice Ab nb cb] 25))
  have kq := kq.below (below_alloc ((w3.alloc (.cells #[.bool bzq, .slice Azq nzq czq] 25)).alloc (.cells #[.bool bzr, .slice Azr nzr czr] 25)) (.cells #[.bool false, .slice Ab nb cb] 25))
  have kr := kr.below (below_alloc ((w3.alloc (.cells #[.bool bzq, .slice Azq nzq czq] 25)).alloc (.cells #[.bool bzr, .slice Azr nzr czr] 25)) (.cells #[.bool false, .slice Ab nb cb] 25))
  have hsz := hsz.below (below_alloc ((w3.alloc (.cells #[.bool bzq, .slice Azq nzq czq] 25)).alloc (.cells #[.bool bzr, .slice Azr nzr czr] 25)) (.cells #[.bool false, .slice Ab nb cb] 25))
  have kz := Bx.new ((w3.alloc (.cells #[.bool bzq, .slice Azq nzq czq] 25)).alloc (.cells #[.bool bzr, .slice Azr nzr czr] 25)) (w3.heap.size + 1 + 1) (by simp) (.bool false) (.slice Ab nb cb)
  have B0 := B0.trans ((below_alloc ((w3.alloc (.cells #[.bool bzq, .slice Azq nzq czq] 25)).alloc (.cells #[.bool bzr, .slice Azr nzr czr] 25)) (.cells #[.bool false, .slice Ab nb cb] 25)).mono B0.size)
  go_wp2_with fail
  have ha := ha.drew
  have hb := hb.drew
  have ka := ka.drew
  have kb := kb.drew
  have zq := zq.drew
  have zr := zr.drew
  have kq := kq.drew
  have kr := kr.drew
  have hsz := hsz.drew
  have kz := kz.drew
  have B0 := b_drew B0
  go_region_held3 (fun w' => w'.cell? ⟨w.heap.size, 0, none⟩ = some (.bool ba) ∧ w'.cell? ⟨w.heap.size, 1, none⟩ = some (.slice Aa na ca) ∧ w'.cell? ⟨w.heap.size + 1, 0, none⟩ = some (.bool bb) ∧ w'.cell? ⟨w.heap.size + 1, 1, none⟩ = some (.slice Ab nb cb) ∧ w'.cell? ⟨w3.heap.size, 0, none⟩ = some (.bool bzq) ∧ w'.cell? ⟨w3.heap.size, 1, none⟩ = some (.slice Azq nzq czq) ∧ w'.cell? ⟨w3.heap.size + 1, 0, none⟩ = some (.bool bzr) ∧ w'.cell? ⟨w3.heap.size + 1, 1, none⟩ = some (.slice Azr nzr czr) ∧ w'.cell? ⟨w3.heap.size + 1 + 1, 0, none⟩ = some (.bool false) ∧ w'.cell? ⟨w3.heap.size + 1 + 1, 1, none⟩ = some (.slice Ab nb cb)) (first | exact ⟨ka.1, ka.2, kb.1, kb.2, kq.1, kq.2, kr.1, kr.2, kz.1, kz.2⟩)
    (first
      | (go_at_call 27; (with_reducible refine (imul_i zq.iv hb ?_ ?_).mono ?_); omega; omega; rintro e w4 ⟨v1, rfl, z1, bb⟩; have ha := ha.below bb; have hb := hb.below bb; have ka := ka.below bb; have kb := kb.below bb; have zq := zq.below bb; have zr := zr.below bb; have kq := kq.below bb; have kr := kr.below bb; have hsz := hsz.below bb; have kz := kz.below bb; have B0 := B0.trans (bb.mono B0.size); clear bb)
      | (go_at_call 21; (with_reducible refine (iadd_i z1.iv zr.iv ?_ ?_).mono ?_); omega; omega; rintro e w5 ⟨v2, rfl, z2, bb⟩; have ha := ha.below bb; have hb := hb.below bb; have ka := ka.below bb; have kb := kb.below bb; have zq := zq.below bb; have zr := zr.below bb; have kq := kq.below bb; have kr := kr.below bb; have hsz := hsz.below bb; have kz := kz.below bb; have z1 := z1.below bb; have B0 := B0.trans (bb.mono B0.size); clear bb)
      | (go_at_call 15; (with_reducible refine (inorm_i ha ?_).mono ?_); omega; rintro e w6 ⟨v3, rfl, z3, bb⟩; have ha := ha.below bb; have hb := hb.below bb; have ka := ka.below bb; have kb := kb.below bb; have zq := zq.below bb; have zr := zr.below bb; have kq := kq.below bb; have kr := kr.below bb; have hsz := hsz.below bb; have kz := kz.below bb; have z2 := z2.below bb; have B0 := B0.trans (bb.mono B0.size); clear bb)
      | (go_at_call 14; (with_reducible refine (isame_i z2 z3 (by rw [Int.mul_comm]; exact Int.mul_ediv_add_emod a b)).mono ?_); rintro e w7 ⟨rfl, bb⟩; have ha := ha.below bb; have hb := hb.below bb; have ka := ka.below bb; have kb := kb.below bb; have zq := zq.below bb; have zr := zr.below bb; have kq := kq.below bb; have kr := kr.below bb; have hsz := hsz.below bb; have kz := kz.below bb; have z2 := z2.below bb; have z3 := z3.below bb; have B0 := B0.trans (bb.mono B0.size); clear bb)
      | (go_at_call 36; (with_reducible refine (iof_i 0 (by decide) (by decide) _).mono ?_); rintro e w8 ⟨v4, rfl, z4, bb⟩; have ha := ha.below bb; have hb := hb.below bb; have ka := ka.below bb; have kb := kb.below bb; have zq := zq.below bb; have zr := zr.below bb; have kq := kq.below bb; have kr := kr.below bb; have hsz := hsz.below bb; have kz := kz.below bb; have B0 := B0.trans (bb.mono B0.size); clear bb)
      | (go_at_call 17; (with_reducible refine (icmp_i zr.iv z4.iv _ HO.out).mono ?_); rintro e w9 ⟨rfl, bb⟩; have ha := ha.below bb; have hb := hb.below bb; have ka := ka.below bb; have kb := kb.below bb; have zq := zq.below bb; have zr := zr.below bb; have kq := kq.below bb; have kr := kr.below bb; have hsz := hsz.below bb; have kz := kz.below bb; have z4 := z4.below bb; have B0 := B0.trans (bb.mono B0.size); clear bb)
      | (go_at_call 17; (with_reducible refine (icmp_i zr.iv hsz _ HP.out).mono ?_); rintro e w10 ⟨rfl, bb⟩; have ha := ha.below bb; have hb := hb.below bb; have ka := ka.below bb; have kb := kb.below bb; have zq := zq.below bb; have zr := zr.below bb; have kq := kq.below bb; have kr := kr.below bb; have hsz := hsz.below bb; have kz := kz.below bb; have B0 := B0.trans (bb.mono B0.size); clear bb)
      | (go_at_call 13; (with_reducible refine (awake_walk _ (HT.out.below B0)).mono ?_); rintro e w11 ⟨rfl, bb⟩; have ha := ha.below bb; have hb := hb.below bb; have ka := ka.below bb; have kb := kb.below bb; have zq := zq.below bb; have zr := zr.below bb; have kq := kq.below bb; have kr := kr.below bb; have hsz := hsz.below bb; have kz := kz.below bb; have B0 := B0.trans (bb.mono B0.size); clear bb))
  go_wp2
  go_ret
  exact ⟨rfl, B0⟩
theorem integerDivides_walk {va : Value} {a : Int} {ka : Nat} {vb : Value} {b : Int} {kb : Nat} (w : World) (ha : Iv w va a ka) (hb : Iv w vb b kb) (ht : Tab w) : Calls Tryd.prog 8 #[va, vb] w (BoolEnd true w) := by
  obtain ⟨ba, Aa, na, ca, rfl, _, ha⟩ := ha.named
  obtain ⟨bb, Ab, nb, cb, rfl, _, hb⟩ := hb.named
  by_cases la : 30 < na
  · exact integerDivides_long_a w la ht
  by_cases lb : 30 < nb
  · exact integerDivides_long_b w (by omega) lb ht
  by_cases h0 : b = 0
  · exact integerDivides_zero w ha hb (by omega) (by omega) h0 ht
  · exact integerDivides_pos w ha hb (by omega) (by omega) h0 ht
end Go.Proofs.YthcoemkbdllcfaaDoor
