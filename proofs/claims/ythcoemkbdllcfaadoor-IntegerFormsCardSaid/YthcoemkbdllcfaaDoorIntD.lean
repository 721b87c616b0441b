/-
  The walk of integer.DivMod.
-/
import Derived.Test.YthcoemkbdllcfaaDoorIntC
namespace Go.Proofs.YthcoemkbdllcfaaDoor
open Go.RowKit
attribute [local go_sem ↓] Go.wp_at_zero Go.wp_at_succ
set_option linter.unusedVariables false

theorem div_n0c {w : World} {va vb : Value} {a b k j : Nat} (ha : Nm w va a k) (hb : Nm w vb b j) (h0 : b = 0) :
    Calls Tryd.prog 50 #[va, vb] w fun e w' => e = .returned (.tuple #[.slice none 0 0, .slice none 0 0, .bool false]) ∧ Below w.heap.size w w' :=
  (div_n0 ha hb h0).mono fun _ _ ⟨h, e⟩ => ⟨h, e ▸ Below.refl _ _⟩
/-- Quotient and remainder. -/
def IDEnd (q r : Int) (k j : Nat) (w : World) (e : Ending) (w' : World) : Prop := ∃ v1 v2, e = .returned (.tuple #[v1, v2, .bool true]) ∧ Iz w' v1 q k ∧ Iz w' v2 r j ∧ Below w.heap.size w w'
def ID0End (w : World) (e : Ending) (w' : World) : Prop := e = .returned (.tuple #[.agg #[.bool false, .slice none 0 0], .agg #[.bool false, .slice none 0 0], .bool false]) ∧ Below w.heap.size w w'
set_option maxRecDepth 20000 in
set_option maxHeartbeats 1000000 in
theorem idiv_0 {w : World} {b b' : Bool} {A A' : Option Addr} {n n' c c' m m' k j : Nat} (hm : Nm w (.slice A n c) m k) (hm' : Nm w (.slice A' n' c') m' j) (hk : k ≤ 400) (hj : j ≤ 400) (h : m' = 0) : Calls Tryd.prog 25 #[.agg #[.bool b, .slice A n c], .agg #[.bool b', .slice A' n' c']] w (ID0End w) := by
  have H := Lib.hid h
  clear h
  have B0 := below_a4 w (.cells #[.bool b, .slice A n c] 25) (.cells #[.bool b', .slice A' n' c'] 25) (.cells #[.bool false, .slice none 0 0] 25) (.cells #[.bool false, .slice none 0 0] 25)
  have hm := hm.below B0
  have hm' := hm'.below B0
  have ka := ((((Bx.new w (w.heap.size) (by simp) (.bool b) (.slice A n c)).below (below_alloc (w.alloc (.cells #[.bool b, .slice A n c] 25)) (.cells #[.bool b', .slice A' n' c'] 25))).below (below_alloc ((w.alloc (.cells #[.bool b, .slice A n c] 25)).alloc (.cells #[.bool b', .slice A' n' c'] 25)) (.cells #[.bool false, .slice none 0 0] 25))).below (below_alloc (((w.alloc (.cells #[.bool b, .slice A n c] 25)).alloc (.cells #[.bool b', .slice A' n' c'] 25)).alloc (.cells #[.bool false, .slice none 0 0] 25)) (.cells #[.bool false, .slice none 0 0] 25)))
  have kb := (((Bx.new (w.alloc (.cells #[.bool b, .slice A n c] 25)) (w.heap.size + 1) (by simp) (.bool b') (.slice A' n' c')).below (below_alloc ((w.alloc (.cells #[.bool b, .slice A n c] 25)).alloc (.cells #[.bool b', .slice A' n' c'] 25)) (.cells #[.bool false, .slice none 0 0] 25))).below (below_alloc (((w.alloc (.cells #[.bool b, .slice A n c] 25)).alloc (.cells #[.bool b', .slice A' n' c'] 25)).alloc (.cells #[.bool false, .slice none 0 0] 25)) (.cells #[.bool false, .slice none 0 0] 25)))
  have kq := ((Rx.new ((w.alloc (.cells #[.bool b, .slice A n c] 25)).alloc (.cells #[.bool b', .slice A' n' c'] 25)) (w.heap.size + 1 + 1) (by simp)).below (below_alloc (((w.alloc (.cells #[.bool b, .slice A n c] 25)).alloc (.cells #[.bool b', .slice A' n' c'] 25)).alloc (.cells #[.bool false, .slice none 0 0] 25)) (.cells #[.bool false, .slice none 0 0] 25)))
  have kr := (Rx.new (((w.alloc (.cells #[.bool b, .slice A n c] 25)).alloc (.cells #[.bool b', .slice A' n' c'] 25)).alloc (.cells #[.bool false, .slice none 0 0] 25)) (w.heap.size + 1 + 1 + 1) (by simp))
  go_enter Tryd.func25, Tryd.ntmps25
  have ka0 := ka.1
  have ka1 := ka.2
  have kb0 := kb.1
  have kb1 := kb.2
  have kq0 := kq.1
  have kq1 := kq.2.1
  have kq2 := kq.2.2.1
  have kq3 := kq.2.2.2
  have kr0 := kr.1
  have kr1 := kr.2.1
  have kr2 := kr.2.2.1
  have kr3 := kr.2.2.2
  go_wp2_with fail
  refine (div_n0c hm hm' H.out).mono ?_
  clear ka0 ka1 kb0 kb1 kq0 kq1 kq2 kq3 kr0 kr1 kr2 kr3
  rintro e w1 ⟨rfl, bb⟩
  have hm := hm.below bb
  have hm' := hm'.below bb
  have ka := ka.below bb
  have kb := kb.below bb
  have kq := kq.below bb
  have kr := kr.below bb
  have B0 := B0.trans (bb.mono B0.size)
  clear bb
  have ka0 := ka.1
  have ka1 := ka.2
  have kb0 := kb.1
  have kb1 := kb.2
  have kq0 := kq.1
  have kq1 := kq.2.1
  have kq2 := kq.2.2.1
  have kq3 := kq.2.2.2
  have kr0 := kr.1
  have kr1 := kr.2.1
  have kr2 := kr.2.2.1
  have kr3 := kr.2.2.2
  go_wp2
  refine bodyPost_ret (v := .tuple #[.agg #[.bool false, .slice none 0 0], .agg #[.bool false, .slice none 0 0], .bool false]) (by simp [results, Tryd.results25, go_sem, kq0, kq1, kr0, kr1]) rfl ⟨rfl, below_ret (below_ret B0 (by omega) _ _) (by omega) _ _⟩
set_option maxRecDepth 20000 in
set_option maxHeartbeats 1000000 in
theorem idiv_p_false {w : World} {A A' : Option Addr} {n n' c c' m m' k j : Nat} (hm : Nm w (.slice A n c) m k) (hm' : Nm w (.slice A' n' c') m' j) (hk : k ≤ 400) (hj : j ≤ 400) (h : 0 < m') : Calls Tryd.prog 25 #[.agg #[.bool false, .slice A n c], .agg #[.bool false, .slice A' n' c']] w (IDEnd (sgn false (m / m')) (sgn false (m % m')) k j w) := by
  have H := Lib.hid h
  clear h
  have B0 := below_a4 w (.cells #[.bool false, .slice A n c] 25) (.cells #[.bool false, .slice A' n' c'] 25) (.cells #[.bool false, .slice none 0 0] 25) (.cells #[.bool false, .slice none 0 0] 25)
  have hm := hm.below B0
  have hm' := hm'.below B0
  have ka := ((((Bx.new w (w.heap.size) (by simp) (.bool false) (.slice A n c)).below (below_alloc (w.alloc (.cells #[.bool false, .slice A n c] 25)) (.cells #[.bool false, .slice A' n' c'] 25))).below (below_alloc ((w.alloc (.cells #[.bool false, .slice A n c] 25)).alloc (.cells #[.bool false, .slice A' n' c'] 25)) (.cells #[.bool false, .slice none 0 0] 25))).below (below_alloc (((w.alloc (.cells #[.bool false, .slice A n c] 25)).alloc (.cells #[.bool false, .slice A' n' c'] 25)).alloc (.cells #[.bool false, .slice none 0 0] 25)) (.cells #[.bool false, .slice none 0 0] 25)))
  have kb := (((Bx.new (w.alloc (.cells #[.bool false, .slice A n c] 25)) (w.heap.size + 1) (by simp) (.bool false) (.slice A' n' c')).below (below_alloc ((w.alloc (.cells #[.bool false, .slice A n c] 25)).alloc (.cells #[.bool false, .slice A' n' c'] 25)) (.cells #[.bool false, .slice none 0 0] 25))).below (below_alloc (((w.alloc (.cells #[.bool false, .slice A n c] 25)).alloc (.cells #[.bool false, .slice A' n' c'] 25)).alloc (.cells #[.bool false, .slice none 0 0] 25)) (.cells #[.bool false, .slice none 0 0] 25)))
  have kq := ((Rx.new ((w.alloc (.cells #[.bool false, .slice A n c] 25)).alloc (.cells #[.bool false, .slice A' n' c'] 25)) (w.heap.size + 1 + 1) (by simp)).below (below_alloc (((w.alloc (.cells #[.bool false, .slice A n c] 25)).alloc (.cells #[.bool false, .slice A' n' c'] 25)).alloc (.cells #[.bool false, .slice none 0 0] 25)) (.cells #[.bool false, .slice none 0 0] 25)))
  have kr := (Rx.new (((w.alloc (.cells #[.bool false, .slice A n c] 25)).alloc (.cells #[.bool false, .slice A' n' c'] 25)).alloc (.cells #[.bool false, .slice none 0 0] 25)) (w.heap.size + 1 + 1 + 1) (by simp))
  go_enter Tryd.func25, Tryd.ntmps25
  have ka0 := ka.1
  have ka1 := ka.2
  have kb0 := kb.1
  have kb1 := kb.2
  have kq0 := kq.1
  have kq1 := kq.2.1
  have kq2 := kq.2.2.1
  have kq3 := kq.2.2.2
  have kr0 := kr.1
  have kr1 := kr.2.1
  have kr2 := kr.2.2.1
  have kr3 := kr.2.2.2
  go_wp2_with fail
  refine (div_n hm hm' (by omega) H.out).mono ?_
  clear ka0 ka1 kb0 kb1 kq0 kq1 kq2 kq3 kr0 kr1 kr2 kr3
  rintro e w1 ⟨v1, v2, rfl, z1, z2, bb⟩
  have hm := hm.below bb
  have hm' := hm'.below bb
  have ka := ka.below bb
  have kb := kb.below bb
  have kq := kq.below bb
  have kr := kr.below bb
  have B0 := B0.trans (bb.mono B0.size)
  clear bb
  obtain ⟨A2, n2, c2, rfl, _, _⟩ := z2.nm.form
  have ka0 := ka.1
  have ka1 := ka.2
  have kb0 := kb.1
  have kb1 := kb.2
  have kq0 := kq.1
  have kq1 := kq.2.1
  have kq2 := kq.2.2.1
  have kq3 := kq.2.2.2
  have kr0 := kr.1
  have kr1 := kr.2.1
  have kr2 := kr.2.2.1
  have kr3 := kr.2.2.2
  go_wp2_with fail
  refine (signed_i false z1 _ rfl).mono ?_
  clear ka0 ka1 kb0 kb1 kq0 kq1 kq2 kq3 kr0 kr1 kr2 kr3
  rintro e w2 ⟨vq, rfl, zq, bb⟩
  have ka := ka.below bb
  have kb := kb.below bb
  have kq := kq.below bb
  have kr := kr.below bb
  have z1 := z1.below bb
  have z2 := z2.below bb
  have B0 := B0.trans (bb.mono B0.size)
  clear bb
  obtain ⟨bq, Aq, nq, cq, rfl, zq⟩ := zq.cells
  have ka0 := ka.1
  have ka1 := ka.2
  have kb0 := kb.1
  have kb1 := kb.2
  have kq0 := kq.1
  have kq1 := kq.2.1
  have kq2 := kq.2.2.1
  have kq3 := kq.2.2.2
  have kr0 := kr.1
  have kr1 := kr.2.1
  have kr2 := kr.2.2.1
  have kr3 := kr.2.2.2
  go_wp2_with fail
  refine (signed_i false z2 _ rfl).mono ?_
  clear ka0 ka1 kb0 kb1 kq0 kq1 kq2 kq3 kr0 kr1 kr2 kr3
  rintro e w3 ⟨vr, rfl, zr, bb⟩
  have ka := ka.below bb
  have kb := kb.below bb
  have kq := kq.below bb
  have kr := kr.below bb
  have z1 := z1.below bb
  have z2 := z2.below bb
  have zq := zq.below bb
  have B0 := B0.trans (bb.mono B0.size)
  clear bb
  obtain ⟨br, Ar, nr, cr, rfl, zr⟩ := zr.cells
  have ka0 := ka.1
  have ka1 := ka.2
  have kb0 := kb.1
  have kb1 := kb.2
  have kq0 := kq.1
  have kq1 := kq.2.1
  have kq2 := kq.2.2.1
  have kq3 := kq.2.2.2
  have kr0 := kr.1
  have kr1 := kr.2.1
  have kr2 := kr.2.2.1
  have kr3 := kr.2.2.2
  go_wp2
  refine bodyPost_ret (v := .tuple #[.agg #[.bool bq, .slice Aq nq cq], .agg #[.bool br, .slice Ar nr cr], .bool true]) (by simp [results, Tryd.results25, go_sem, kq0, kq1, kr0, kr1]) rfl ⟨_, _, rfl, (zq.ret kq _ _).ret (kr.ret (by omega) _ _) _ _, (zr.ret kq _ _).ret (kr.ret (by omega) _ _) _ _, below_ret (below_ret B0 (by omega) _ _) (by omega) _ _⟩
set_option maxRecDepth 20000 in
set_option maxHeartbeats 1000000 in
theorem idiv_p_true {w : World} {A A' : Option Addr} {n n' c c' m m' k j : Nat} (hm : Nm w (.slice A n c) m k) (hm' : Nm w (.slice A' n' c') m' j) (hk : k ≤ 400) (hj : j ≤ 400) (h : 0 < m') : Calls Tryd.prog 25 #[.agg #[.bool false, .slice A n c], .agg #[.bool true, .slice A' n' c']] w (IDEnd (sgn true (m / m')) (sgn false (m % m')) k j w) := by
  have H := Lib.hid h
  clear h
  have B0 := below_a4 w (.cells #[.bool false, .slice A n c] 25) (.cells #[.bool true, .slice A' n' c'] 25) (.cells #[.bool false, .slice none 0 0] 25) (.cells #[.bool false, .slice none 0 0] 25)
  have hm := hm.below B0
  have hm' := hm'.below B0
  have ka := ((((Bx.new w (w.heap.size) (by simp) (.bool false) (.slice A n c)).below (below_alloc (w.alloc (.cells #[.bool false, .slice A n c] 25)) (.cells #[.bool true, .slice A' n' c'] 25))).below (below_alloc ((w.alloc (.cells #[.bool false, .slice A n c] 25)).alloc (.cells #[.bool true, .slice A' n' c'] 25)) (.cells #[.bool false, .slice none 0 0] 25))).below (below_alloc (((w.alloc (.cells #[.bool false, .slice A n c] 25)).alloc (.cells #[.bool true, .slice A' n' c'] 25)).alloc (.cells #[.bool false, .slice none 0 0] 25)) (.cells #[.bool false, .slice none 0 0] 25)))
  have kb := (((Bx.new (w.alloc (.cells #[.bool false, .slice A n c] 25)) (w.heap.size + 1) (by simp) (.bool true) (.slice A' n' c')).below (below_alloc ((w.alloc (.cells #[.bool false, .slice A n c] 25)).alloc (.cells #[.bool true, .slice A' n' c'] 25)) (.cells #[.bool false, .slice none 0 0] 25))).below (below_alloc (((w.alloc (.cells #[.bool false, .slice A n c] 25)).alloc (.cells #[.bool true, .slice A' n' c'] 25)).alloc (.cells #[.bool false, .slice none 0 0] 25)) (.cells #[.bool false, .slice none 0 0] 25)))
  have kq := ((Rx.new ((w.alloc (.cells #[.bool false, .slice A n c] 25)).alloc (.cells #[.bool true, .slice A' n' c'] 25)) (w.heap.size + 1 + 1) (by simp)).below (below_alloc (((w.alloc (.cells #[.bool false, .slice A n c] 25)).alloc (.cells #[.bool true, .slice A' n' c'] 25)).alloc (.cells #[.bool false, .slice none 0 0] 25)) (.cells #[.bool false, .slice none 0 0] 25)))
  have kr := (Rx.new (((w.alloc (.cells #[.bool false, .slice A n c] 25)).alloc (.cells #[.bool true, .slice A' n' c'] 25)).alloc (.cells #[.bool false, .slice none 0 0] 25)) (w.heap.size + 1 + 1 + 1) (by simp))
  go_enter Tryd.func25, Tryd.ntmps25
  have ka0 := ka.1
  have ka1 := ka.2
  have kb0 := kb.1
  have kb1 := kb.2
  have kq0 := kq.1
  have kq1 := kq.2.1
  have kq2 := kq.2.2.1
  have kq3 := kq.2.2.2
  have kr0 := kr.1
  have kr1 := kr.2.1
  have kr2 := kr.2.2.1
  have kr3 := kr.2.2.2
  go_wp2_with fail
  refine (div_n hm hm' (by omega) H.out).mono ?_
  clear ka0 ka1 kb0 kb1 kq0 kq1 kq2 kq3 kr0 kr1 kr2 kr3
  rintro e w1 ⟨v1, v2, rfl, z1, z2, bb⟩
  have hm := hm.below bb
  have hm' := hm'.below bb
  have ka := ka.below bb
  have kb := kb.below bb
  have kq := kq.below bb
  have kr := kr.below bb
  have B0 := B0.trans (bb.mono B0.size)
  clear bb
  obtain ⟨A2, n2, c2, rfl, _, _⟩ := z2.nm.form
  have ka0 := ka.1
  have ka1 := ka.2
  have kb0 := kb.1
  have kb1 := kb.2
  have kq0 := kq.1
  have kq1 := kq.2.1
  have kq2 := kq.2.2.1
  have kq3 := kq.2.2.2
  have kr0 := kr.1
  have kr1 := kr.2.1
  have kr2 := kr.2.2.1
  have kr3 := kr.2.2.2
  go_wp2_with fail
  refine (signed_i true z1 _ rfl).mono ?_
  clear ka0 ka1 kb0 kb1 kq0 kq1 kq2 kq3 kr0 kr1 kr2 kr3
  rintro e w2 ⟨vq, rfl, zq, bb⟩
  have ka := ka.below bb
  have kb := kb.below bb
  have kq := kq.below bb
  have kr := kr.below bb
  have z1 := z1.below bb
  have z2 := z2.below bb
  have B0 := B0.trans (bb.mono B0.size)
  clear bb
  obtain ⟨bq, Aq, nq, cq, rfl, zq⟩ := zq.cells
  have ka0 := ka.1
  have ka1 := ka.2
  have kb0 := kb.1
  have kb1 := kb.2
  have kq0 := kq.1
  have kq1 := kq.2.1
  have kq2 := kq.2.2.1
  have kq3 := kq.2.2.2
  have kr0 := kr.1
  have kr1 := kr.2.1
  have kr2 := kr.2.2.1
  have kr3 := kr.2.2.2
  go_wp2_with fail
  refine (signed_i false z2 _ rfl).mono ?_
  clear ka0 ka1 kb0 kb1 kq0 kq1 kq2 kq3 kr0 kr1 kr2 kr3
  rintro e w3 ⟨vr, rfl, zr, bb⟩
  have ka := ka.below bb
  have kb := kb.below bb
  have kq := kq.below bb
  have kr := kr.below bb
  have z1 := z1.below bb
  have z2 := z2.below bb
  have zq := zq.below bb
  have B0 := B0.trans (bb.mono B0.size)
  clear bb
  obtain ⟨br, Ar, nr, cr, rfl, zr⟩ := zr.cells
  have ka0 := ka.1
  have ka1 := ka.2
  have kb0 := kb.1
  have kb1 := kb.2
  have kq0 := kq.1
  have kq1 := kq.2.1
  have kq2 := kq.2.2.1
  have kq3 := kq.2.2.2
  have kr0 := kr.1
  have kr1 := kr.2.1
  have kr2 := kr.2.2.1
  have kr3 := kr.2.2.2
  go_wp2
  refine bodyPost_ret (v := .tuple #[.agg #[.bool bq, .slice Aq nq cq], .agg #[.bool br, .slice Ar nr cr], .bool true]) (by simp [results, Tryd.results25, go_sem, kq0, kq1, kr0, kr1]) rfl ⟨_, _, rfl, (zq.ret kq _ _).ret (kr.ret (by omega) _ _) _ _, (zr.ret kq _ _).ret (kr.ret (by omega) _ _) _ _, below_ret (below_ret B0 (by omega) _ _) (by omega) _ _⟩
set_option maxRecDepth 20000 in
set_option maxHeartbeats 1000000 in
theorem idiv_e_false {w : World} {A A' : Option Addr} {n n' c c' m m' k j : Nat} (hm : Nm w (.slice A n c) m k) (hm' : Nm w (.slice A' n' c') m' j) (hk : k ≤ 400) (hj : j ≤ 400) (h : 0 < m') (h' : m % m' = 0) : Calls Tryd.prog 25 #[.agg #[.bool true, .slice A n c], .agg #[.bool false, .slice A' n' c']] w (IDEnd (sgn true (m / m')) (sgn false (m % m')) k j w) := by
  have H := Lib.hid h
  clear h
  have H' := Lib.hid h'
  clear h'
  have B0 := below_a4 w (.cells #[.bool true, .slice A n c] 25) (.cells #[.bool false, .slice A' n' c'] 25) (.cells #[.bool false, .slice none 0 0] 25) (.cells #[.bool false, .slice none 0 0] 25)
  have hm := hm.below B0
  have hm' := hm'.below B0
  have ka := ((((Bx.new w (w.heap.size) (by simp) (.bool true) (.slice A n c)).below (below_alloc (w.alloc (.cells #[.bool true, .slice A n c] 25)) (.cells #[.bool false, .slice A' n' c'] 25))).below (below_alloc ((w.alloc (.cells #[.bool true, .slice A n c] 25)).alloc (.cells #[.bool false, .slice A' n' c'] 25)) (.cells #[.bool false, .slice none 0 0] 25))).below (below_alloc (((w.alloc (.cells #[.bool true, .slice A n c] 25)).alloc (.cells #[.bool false, .slice A' n' c'] 25)).alloc (.cells #[.bool false, .slice none 0 0] 25)) (.cells #[.bool false, .slice none 0 0] 25)))
  have kb := (((Bx.new (w.alloc (.cells #[.bool true, .slice A n c] 25)) (w.heap.size + 1) (by simp) (.bool false) (.slice A' n' c')).below (below_alloc ((w.alloc (.cells #[.bool true, .slice A n c] 25)).alloc (.cells #[.bool false, .slice A' n' c'] 25)) (.cells #[.bool false, .slice none 0 0] 25))).below (below_alloc (((w.alloc (.cells #[.bool true, .slice A n c] 25)).alloc (.cells #[.bool false, .slice A' n' c'] 25)).alloc (.cells #[.bool false, .slice none 0 0] 25)) (.cells #[.bool false, .slice none 0 0] 25)))
  have kq := ((Rx.new ((w.alloc (.cells #[.bool true, .slice A n c] 25)).alloc (.cells #[.bool false, .slice A' n' c'] 25)) (w.heap.size + 1 + 1) (by simp)).below (below_alloc (((w.alloc (.cells #[.bool true, .slice A n c] 25)).alloc (.cells #[.bool false, .slice A' n' c'] 25)).alloc (.cells #[.bool false, .slice none 0 0] 25)) (.cells #[.bool false, .slice none 0 0] 25)))
  have kr := (Rx.new (((w.alloc (.cells #[.bool true, .slice A n c] 25)).alloc (.cells #[.bool false, .slice A' n' c'] 25)).alloc (.cells #[.bool false, .slice none 0 0] 25)) (w.heap.size + 1 + 1 + 1) (by simp))
  go_enter Tryd.func25, Tryd.ntmps25
  have ka0 := ka.1
  have ka1 := ka.2
  have kb0 := kb.1
  have kb1 := kb.2
  have kq0 := kq.1
  have kq1 := kq.2.1
  have kq2 := kq.2.2.1
  have kq3 := kq.2.2.2
  have kr0 := kr.1
  have kr1 := kr.2.1
  have kr2 := kr.2.2.1
  have kr3 := kr.2.2.2
  go_wp2_with fail
  refine (div_n hm hm' (by omega) H.out).mono ?_
  clear ka0 ka1 kb0 kb1 kq0 kq1 kq2 kq3 kr0 kr1 kr2 kr3
  rintro e w1 ⟨v1, v2, rfl, z1, z2, bb⟩
  have hm := hm.below bb
  have hm' := hm'.below bb
  have ka := ka.below bb
  have kb := kb.below bb
  have kq := kq.below bb
  have kr := kr.below bb
  have B0 := B0.trans (bb.mono B0.size)
  clear bb
  obtain ⟨A2, n2, c2, rfl, _, _⟩ := z2.nm.form
  have hn2 := z2.len0.1.2 H'.out
  have Hn2 : ¬ 0 < n2 := by omega
  clear hn2
  have ka0 := ka.1
  have ka1 := ka.2
  have kb0 := kb.1
  have kb1 := kb.2
  have kq0 := kq.1
  have kq1 := kq.2.1
  have kq2 := kq.2.2.1
  have kq3 := kq.2.2.2
  have kr0 := kr.1
  have kr1 := kr.2.1
  have kr2 := kr.2.2.1
  have kr3 := kr.2.2.2
  go_wp2_with fail
  refine (signed_i true z1 _ rfl).mono ?_
  clear ka0 ka1 kb0 kb1 kq0 kq1 kq2 kq3 kr0 kr1 kr2 kr3
  rintro e w2 ⟨vq, rfl, zq, bb⟩
  have ka := ka.below bb
  have kb := kb.below bb
  have kq := kq.below bb
  have kr := kr.below bb
  have z1 := z1.below bb
  have z2 := z2.below bb
  have B0 := B0.trans (bb.mono B0.size)
  clear bb
  obtain ⟨bq, Aq, nq, cq, rfl, zq⟩ := zq.cells
  have ka0 := ka.1
  have ka1 := ka.2
  have kb0 := kb.1
  have kb1 := kb.2
  have kq0 := kq.1
  have kq1 := kq.2.1
  have kq2 := kq.2.2.1
  have kq3 := kq.2.2.2
  have kr0 := kr.1
  have kr1 := kr.2.1
  have kr2 := kr.2.2.1
  have kr3 := kr.2.2.2
  go_wp2_with fail
  refine (signed_i false z2 _ rfl).mono ?_
  clear ka0 ka1 kb0 kb1 kq0 kq1 kq2 kq3 kr0 kr1 kr2 kr3
  rintro e w3 ⟨vr, rfl, zr, bb⟩
  have ka := ka.below bb
  have kb := kb.below bb
  have kq := kq.below bb
  have kr := kr.below bb
  have z1 := z1.below bb
  have z2 := z2.below bb
  have zq := zq.below bb
  have B0 := B0.trans (bb.mono B0.size)
  clear bb
  obtain ⟨br, Ar, nr, cr, rfl, zr⟩ := zr.cells
  have ka0 := ka.1
  have ka1 := ka.2
  have kb0 := kb.1
  have kb1 := kb.2
  have kq0 := kq.1
  have kq1 := kq.2.1
  have kq2 := kq.2.2.1
  have kq3 := kq.2.2.2
  have kr0 := kr.1
  have kr1 := kr.2.1
  have kr2 := kr.2.2.1
  have kr3 := kr.2.2.2
  go_wp2
  refine bodyPost_ret (v := .tuple #[.agg #[.bool bq, .slice Aq nq cq], .agg #[.bool br, .slice Ar nr cr], .bool true]) (by simp [results, Tryd.results25, go_sem, kq0, kq1, kr0, kr1]) rfl ⟨_, _, rfl, (zq.ret kq _ _).ret (kr.ret (by omega) _ _) _ _, (zr.ret kq _ _).ret (kr.ret (by omega) _ _) _ _, below_ret (below_ret B0 (by omega) _ _) (by omega) _ _⟩
set_option maxRecDepth 20000 in
set_option maxHeartbeats 1000000 in
theorem idiv_e_true {w : World} {A A' : Option Addr} {n n' c c' m m' k j : Nat} (hm : Nm w (.slice A n c) m k) (hm' : Nm w (.slice A' n' c') m' j) (hk : k ≤ 400) (hj : j ≤ 400) (h : 0 < m') (h' : m % m' = 0) : Calls Tryd.prog 25 #[.agg #[.bool true, .slice A n c], .agg #[.bool true, .slice A' n' c']] w (IDEnd (sgn false (m / m')) (sgn false (m % m')) k j w) := by
  have H := Lib.hid h
  clear h
  have H' := Lib.hid h'
  clear h'
  have B0 := below_a4 w (.cells #[.bool true, .slice A n c] 25) (.cells #[.bool true, .slice A' n' c'] 25) (.cells #[.bool false, .slice none 0 0] 25) (.cells #[.bool false, .slice none 0 0] 25)
  have hm := hm.below B0
  have hm' := hm'.below B0
  have ka := ((((Bx.new w (w.heap.size) (by simp) (.bool true) (.slice A n c)).below (below_alloc (w.alloc (.cells #[.bool true, .slice A n c] 25)) (.cells #[.bool true, .slice A' n' c'] 25))).below (below_alloc ((w.alloc (.cells #[.bool true, .slice A n c] 25)).alloc (.cells #[.bool true, .slice A' n' c'] 25)) (.cells #[.bool false, .slice none 0 0] 25))).below (below_alloc (((w.alloc (.cells #[.bool true, .slice A n c] 25)).alloc (.cells #[.bool true, .slice A' n' c'] 25)).alloc (.cells #[.bool false, .slice none 0 0] 25)) (.cells #[.bool false, .slice none 0 0] 25)))
  have kb := (((Bx.new (w.alloc (.cells #[.bool true, .slice A n c] 25)) (w.heap.size + 1) (by simp) (.bool true) (.slice A' n' c')).below (below_alloc ((w.alloc (.cells #[.bool true, .slice A n c] 25)).alloc (.cells #[.bool true, .slice A' n' c'] 25)) (.cells #[.bool false, .slice none 0 0] 25))).below (below_alloc (((w.alloc (.cells #[.bool true, .slice A n c] 25)).alloc (.cells #[.bool true, .slice A' n' c'] 25)).alloc (.cells #[.bool false, .slice none 0 0] 25)) (.cells #[.bool false, .slice none 0 0] 25)))
  have kq := ((Rx.new ((w.alloc (.cells #[.bool true, .slice A n c] 25)).alloc (.cells #[.bool true, .slice A' n' c'] 25)) (w.heap.size + 1 + 1) (by simp)).below (below_alloc (((w.alloc (.cells #[.bool true, .slice A n c] 25)).alloc (.cells #[.bool true, .slice A' n' c'] 25)).alloc (.cells #[.bool false, .slice none 0 0] 25)) (.cells #[.bool false, .slice none 0 0] 25)))
  have kr := (Rx.new (((w.alloc (.cells #[.bool true, .slice A n c] 25)).alloc (.cells #[.bool true, .slice A' n' c'] 25)).alloc (.cells #[.bool false, .slice none 0 0] 25)) (w.heap.size + 1 + 1 + 1) (by simp))
  go_enter Tryd.func25, Tryd.ntmps25
  have ka0 := ka.1
  have ka1 := ka.2
  have kb0 := kb.1
  have kb1 := kb.2
  have kq0 := kq.1
  have kq1 := kq.2.1
  have kq2 := kq.2.2.1
  have kq3 := kq.2.2.2
  have kr0 := kr.1
  have kr1 := kr.2.1
  have kr2 := kr.2.2.1
  have kr3 := kr.2.2.2
  go_wp2_with fail
  refine (div_n hm hm' (by omega) H.out).mono ?_
  clear ka0 ka1 kb0 kb1 kq0 kq1 kq2 kq3 kr0 kr1 kr2 kr3
  rintro e w1 ⟨v1, v2, rfl, z1, z2, bb⟩
  have hm := hm.below bb
  have hm' := hm'.below bb
  have ka := ka.below bb
  have kb := kb.below bb
  have kq := kq.below bb
  have kr := kr.below bb
  have B0 := B0.trans (bb.mono B0.size)
  clear bb
  obtain ⟨A2, n2, c2, rfl, _, _⟩ := z2.nm.form
  have hn2 := z2.len0.1.2 H'.out
  have Hn2 : ¬ 0 < n2 := by omega
  clear hn2
  have ka0 := ka.1
  have ka1 := ka.2
  have kb0 := kb.1
  have kb1 := kb.2
  have kq0 := kq.1
  have kq1 := kq.2.1
  have kq2 := kq.2.2.1
  have kq3 := kq.2.2.2
  have kr0 := kr.1
  have kr1 := kr.2.1
  have kr2 := kr.2.2.1
  have kr3 := kr.2.2.2
  go_wp2_with fail
  refine (signed_i false z1 _ rfl).mono ?_
  clear ka0 ka1 kb0 kb1 kq0 kq1 kq2 kq3 kr0 kr1 kr2 kr3
  rintro e w2 ⟨vq, rfl, zq, bb⟩
  have ka := ka.below bb
  have kb := kb.below bb
  have kq := kq.below bb
  have kr := kr.below bb
  have z1 := z1.below bb
  have z2 := z2.below bb
  have B0 := B0.trans (bb.mono B0.size)
  clear bb
  obtain ⟨bq, Aq, nq, cq, rfl, zq⟩ := zq.cells
  have ka0 := ka.1
  have ka1 := ka.2
  have kb0 := kb.1
  have kb1 := kb.2
  have kq0 := kq.1
  have kq1 := kq.2.1
  have kq2 := kq.2.2.1
  have kq3 := kq.2.2.2
  have kr0 := kr.1
  have kr1 := kr.2.1
  have kr2 := kr.2.2.1
  have kr3 := kr.2.2.2
  go_wp2_with fail
  refine (signed_i false z2 _ rfl).mono ?_
  clear ka0 ka1 kb0 kb1 kq0 kq1 kq2 kq3 kr0 kr1 kr2 kr3
  rintro e w3 ⟨vr, rfl, zr, bb⟩
  have ka := ka.below bb
  have kb := kb.below bb
  have kq := kq.below bb
  have kr := kr.below bb
  have z1 := z1.below bb
  have z2 := z2.below bb
  have zq := zq.below bb
  have B0 := B0.trans (bb.mono B0.size)
  clear bb
  obtain ⟨br, Ar, nr, cr, rfl, zr⟩ := zr.cells
  have ka0 := ka.1
  have ka1 := ka.2
  have kb0 := kb.1
  have kb1 := kb.2
  have kq0 := kq.1
  have kq1 := kq.2.1
  have kq2 := kq.2.2.1
  have kq3 := kq.2.2.2
  have kr0 := kr.1
  have kr1 := kr.2.1
  have kr2 := kr.2.2.1
  have kr3 := kr.2.2.2
  go_wp2
  refine bodyPost_ret (v := .tuple #[.agg #[.bool bq, .slice Aq nq cq], .agg #[.bool br, .slice Ar nr cr], .bool true]) (by simp [results, Tryd.results25, go_sem, kq0, kq1, kr0, kr1]) rfl ⟨_, _, rfl, (zq.ret kq _ _).ret (kr.ret (by omega) _ _) _ _, (zr.ret kq _ _).ret (kr.ret (by omega) _ _) _ _, below_ret (below_ret B0 (by omega) _ _) (by omega) _ _⟩
set_option maxRecDepth 20000 in
set_option maxHeartbeats 1000000 in
theorem idiv_m_false {w : World} {A A' : Option Addr} {n n' c c' m m' k j : Nat} (hm : Nm w (.slice A n c) m k) (hm' : Nm w (.slice A' n' c') m' j) (hk : k ≤ 400) (hj : j ≤ 400) (h : 0 < m') (h' : 0 < m % m') : Calls Tryd.prog 25 #[.agg #[.bool true, .slice A n c], .agg #[.bool false, .slice A' n' c']] w (IDEnd (sgn true (m / m' + 1)) (sgn false (m' - m % m')) (k + 3) j w) := by
  have H := Lib.hid h
  have H2 := Lib.hid (Nat.le_of_lt (Nat.mod_lt m h))
  clear h
  have H' := Lib.hid h'
  clear h'
  have B0 := below_a4 w (.cells #[.bool true, .slice A n c] 25) (.cells #[.bool false, .slice A' n' c'] 25) (.cells #[.bool false, .slice none 0 0] 25) (.cells #[.bool false, .slice none 0 0] 25)
  have hm := hm.below B0
  have hm' := hm'.below B0
  have ka := ((((Bx.new w (w.heap.size) (by simp) (.bool true) (.slice A n c)).below (below_alloc (w.alloc (.cells #[.bool true, .slice A n c] 25)) (.cells #[.bool false, .slice A' n' c'] 25))).below (below_alloc ((w.alloc (.cells #[.bool true, .slice A n c] 25)).alloc (.cells #[.bool false, .slice A' n' c'] 25)) (.cells #[.bool false, .slice none 0 0] 25))).below (below_alloc (((w.alloc (.cells #[.bool true, .slice A n c] 25)).alloc (.cells #[.bool false, .slice A' n' c'] 25)).alloc (.cells #[.bool false, .slice none 0 0] 25)) (.cells #[.bool false, .slice none 0 0] 25)))
  have kb := (((Bx.new (w.alloc (.cells #[.bool true, .slice A n c] 25)) (w.heap.size + 1) (by simp) (.bool false) (.slice A' n' c')).below (below_alloc ((w.alloc (.cells #[.bool true, .slice A n c] 25)).alloc (.cells #[.bool false, .slice A' n' c'] 25)) (.cells #[.bool false, .slice none 0 0] 25))).below (below_alloc (((w.alloc (.cells #[.bool true, .slice A n c] 25)).alloc (.cells #[.bool false, .slice A' n' c'] 25)).alloc (.cells #[.bool false, .slice none 0 0] 25)) (.cells #[.bool false, .slice none 0 0] 25)))
  have kq := ((Rx.new ((w.alloc (.cells #[.bool true, .slice A n c] 25)).alloc (.cells #[.bool false, .slice A' n' c'] 25)) (w.heap.size + 1 + 1) (by simp)).below (below_alloc (((w.alloc (.cells #[.bool true, .slice A n c] 25)).alloc (.cells #[.bool false, .slice A' n' c'] 25)).alloc (.cells #[.bool false, .slice none 0 0] 25)) (.cells #[.bool false, .slice none 0 0] 25)))
  have kr := (Rx.new (((w.alloc (.cells #[.bool true, .slice A n c] 25)).alloc (.cells #[.bool false, .slice A' n' c'] 25)).alloc (.cells #[.bool false, .slice none 0 0] 25)) (w.heap.size + 1 + 1 + 1) (by simp))
  go_enter Tryd.func25, Tryd.ntmps25
  have ka0 := ka.1
  have ka1 := ka.2
  have kb0 := kb.1
  have kb1 := kb.2
  have kq0 := kq.1
  have kq1 := kq.2.1
  have kq2 := kq.2.2.1
  have kq3 := kq.2.2.2
  have kr0 := kr.1
  have kr1 := kr.2.1
  have kr2 := kr.2.2.1
  have kr3 := kr.2.2.2
  go_wp2_with fail
  refine (div_n hm hm' (by omega) H.out).mono ?_
  clear ka0 ka1 kb0 kb1 kq0 kq1 kq2 kq3 kr0 kr1 kr2 kr3
  rintro e w1 ⟨v1, v2, rfl, z1, z2, bb⟩
  have hm := hm.below bb
  have hm' := hm'.below bb
  have ka := ka.below bb
  have kb := kb.below bb
  have kq := kq.below bb
  have kr := kr.below bb
  have B0 := B0.trans (bb.mono B0.size)
  clear bb
  obtain ⟨A2, n2, c2, rfl, _, _⟩ := z2.nm.form
  have hn2 : 0 < n2 := by have h1 := z2.len0.1.1; have h2 := H'.out; omega
  have ka0 := ka.1
  have ka1 := ka.2
  have kb0 := kb.1
  have kb1 := kb.2
  have kq0 := kq.1
  have kq1 := kq.2.1
  have kq2 := kq.2.2.1
  have kq3 := kq.2.2.2
  have kr0 := kr.1
  have kr1 := kr.2.1
  have kr2 := kr.2.2.1
  have kr3 := kr.2.2.2
  go_wp2_with fail
  refine (of_z 1 1 rfl (by omega)).mono ?_
  clear ka0 ka1 kb0 kb1 kq0 kq1 kq2 kq3 kr0 kr1 kr2 kr3
  rintro e w2 ⟨v3, rfl, z3, bb⟩
  have hm' := hm'.below bb
  have ka := ka.below bb
  have kb := kb.below bb
  have kq := kq.below bb
  have kr := kr.below bb
  have z1 := z1.below bb
  have z2 := z2.below bb
  have B0 := B0.trans (bb.mono B0.size)
  clear bb
  have ka0 := ka.1
  have ka1 := ka.2
  have kb0 := kb.1
  have kb1 := kb.2
  have kq0 := kq.1
  have kq1 := kq.2.1
  have kq2 := kq.2.2.1
  have kq3 := kq.2.2.2
  have kr0 := kr.1
  have kr1 := kr.2.1
  have kr2 := kr.2.2.1
  have kr3 := kr.2.2.2
  go_wp2_with fail
  refine (add_n z1.nm z3.nm (by omega) (by omega)).mono ?_
  clear ka0 ka1 kb0 kb1 kq0 kq1 kq2 kq3 kr0 kr1 kr2 kr3
  rintro e w3 ⟨v4, rfl, z4, bb⟩
  have hm' := hm'.below bb
  have ka := ka.below bb
  have kb := kb.below bb
  have kq := kq.below bb
  have kr := kr.below bb
  have z1 := z1.below bb
  have z2 := z2.below bb
  have z3 := z3.below bb
  have B0 := B0.trans (bb.mono B0.size)
  clear bb
  have ka0 := ka.1
  have ka1 := ka.2
  have kb0 := kb.1
  have kb1 := kb.2
  have kq0 := kq.1
  have kq1 := kq.2.1
  have kq2 := kq.2.2.1
  have kq3 := kq.2.2.2
  have kr0 := kr.1
  have kr1 := kr.2.1
  have kr2 := kr.2.2.1
  have kr3 := kr.2.2.2
  go_wp2_with fail
  refine (sub_n hm' z2.nm (by omega) H2.out).mono ?_
  clear ka0 ka1 kb0 kb1 kq0 kq1 kq2 kq3 kr0 kr1 kr2 kr3
  rintro e w4 ⟨v5, rfl, z5, bb⟩
  have hm' := hm'.below bb
  have ka := ka.below bb
  have kb := kb.below bb
  have kq := kq.below bb
  have kr := kr.below bb
  have z2 := z2.below bb
  have z4 := z4.below bb
  have B0 := B0.trans (bb.mono B0.size)
  clear bb
  have z4 := z4.wide' (k' := k + 3) (by omega)
  have ka0 := ka.1
  have ka1 := ka.2
  have kb0 := kb.1
  have kb1 := kb.2
  have kq0 := kq.1
  have kq1 := kq.2.1
  have kq2 := kq.2.2.1
  have kq3 := kq.2.2.2
  have kr0 := kr.1
  have kr1 := kr.2.1
  have kr2 := kr.2.2.1
  have kr3 := kr.2.2.2
  go_wp2_with fail
  refine (signed_i true z4 _ rfl).mono ?_
  clear ka0 ka1 kb0 kb1 kq0 kq1 kq2 kq3 kr0 kr1 kr2 kr3
  rintro e w5 ⟨vq, rfl, zq, bb⟩
  have ka := ka.below bb
  have kb := kb.below bb
  have kq := kq.below bb
  have kr := kr.below bb
  have z4 := z4.below bb
  have z5 := z5.below bb
  have B0 := B0.trans (bb.mono B0.size)
  clear bb
  obtain ⟨bq, Aq, nq, cq, rfl, zq⟩ := zq.cells
  have ka0 := ka.1
  have ka1 := ka.2
  have kb0 := kb.1
  have kb1 := kb.2
  have kq0 := kq.1
  have kq1 := kq.2.1
  have kq2 := kq.2.2.1
  have kq3 := kq.2.2.2
  have kr0 := kr.1
  have kr1 := kr.2.1
  have kr2 := kr.2.2.1
  have kr3 := kr.2.2.2
  go_wp2_with fail
  refine (signed_i false z5 _ rfl).mono ?_
  clear ka0 ka1 kb0 kb1 kq0 kq1 kq2 kq3 kr0 kr1 kr2 kr3
  rintro e w6 ⟨vr, rfl, zr, bb⟩
  have ka := ka.below bb
  have kb := kb.below bb
  have kq := kq.below bb
  have kr := kr.below bb
  have z4 := z4.below bb
  have z5 := z5.below bb
  have zq := zq.below bb
  have B0 := B0.trans (bb.mono B0.size)
  clear bb
  obtain ⟨br, Ar, nr, cr, rfl, zr⟩ := zr.cells
  have ka0 := ka.1
  have ka1 := ka.2
  have kb0 := kb.1
  have kb1 := kb.2
  have kq0 := kq.1
  have kq1 := kq.2.1
  have kq2 := kq.2.2.1
  have kq3 := kq.2.2.2
  have kr0 := kr.1
  have kr1 := kr.2.1
  have kr2 := kr.2.2.1
  have kr3 := kr.2.2.2
  go_wp2
  refine bodyPost_ret (v := .tuple #[.agg #[.bool bq, .slice Aq nq cq], .agg #[.bool br, .slice Ar nr cr], .bool true]) (by simp [results, Tryd.results25, go_sem, kq0, kq1, kr0, kr1]) rfl ⟨_, _, rfl, (zq.ret kq _ _).ret (kr.ret (by omega) _ _) _ _, (zr.ret kq _ _).ret (kr.ret (by omega) _ _) _ _, below_ret (below_ret B0 (by omega) _ _) (by omega) _ _⟩
set_option maxRecDepth 20000 in
set_option maxHeartbeats 1000000 in
theorem idiv_m_true {w : World} {A A' : Option Addr} {n n' c c' m m' k j : Nat} (hm : Nm w (.slice A n c) m k) (hm' : Nm w (.slice A' n' c') m' j) (hk : k ≤ 400) (hj : j ≤ 400) (h : 0 < m') (h' : 0 < m % m') : Calls Tryd.prog 25 #[.agg #[.bool true, .slice A n c], .agg #[.bool true, .slice A' n' c']] w (IDEnd (sgn false (m / m' + 1)) (sgn false (m' - m % m')) (k + 3) j w) := by
  have H := Lib.hid h
  have H2 := Lib.hid (Nat.le_of_lt (Nat.mod_lt m h))
  clear h
  have H' := Lib.hid h'
  clear h'
  have B0 := below_a4 w (.cells #[.bool true, .slice A n c] 25) (.cells #[.bool true, .slice A' n' c'] 25) (.cells #[.bool false, .slice none 0 0] 25) (.cells #[.bool false, .slice none 0 0] 25)
  have hm := hm.below B0
  have hm' := hm'.below B0
  have ka := ((((Bx.new w (w.heap.size) (by simp) (.bool true) (.slice A n c)).below (below_alloc (w.alloc (.cells #[.bool true, .slice A n c] 25)) (.cells #[.bool true, .slice A' n' c'] 25))).below (below_alloc ((w.alloc (.cells #[.bool true, .slice A n c] 25)).alloc (.cells #[.bool true, .slice A' n' c'] 25)) (.cells #[.bool false, .slice none 0 0] 25))).below (below_alloc (((w.alloc (.cells #[.bool true, .slice A n c] 25)).alloc (.cells #[.bool true, .slice A' n' c'] 25)).alloc (.cells #[.bool false, .slice none 0 0] 25)) (.cells #[.bool false, .slice none 0 0] 25)))
  have kb := (((Bx.new (w.alloc (.cells #[.bool true, .slice A n c] 25)) (w.heap.size + 1) (by simp) (.bool true) (.slice A' n' c')).below (below_alloc ((w.alloc (.cells #[.bool true, .slice A n c] 25)).alloc (.cells #[.bool true, .slice A' n' c'] 25)) (.cells #[.bool false, .slice none 0 0] 25))).below (below_alloc (((w.alloc (.cells #[.bool true, .slice A n c] 25)).alloc (.cells #[.bool true, .slice A' n' c'] 25)).alloc (.cells #[.bool false, .slice none 0 0] 25)) (.cells #[.bool false, .slice none 0 0] 25)))
  have kq := ((Rx.new ((w.alloc (.cells #[.bool true, .slice A n c] 25)).alloc (.cells #[.bool true, .slice A' n' c'] 25)) (w.heap.size + 1 + 1) (by simp)).below (below_alloc (((w.alloc (.cells #[.bool true, .slice A n c] 25)).alloc (.cells #[.bool true, .slice A' n' c'] 25)).alloc (.cells #[.bool false, .slice none 0 0] 25)) (.cells #[.bool false, .slice none 0 0] 25)))
  have kr := (Rx.new (((w.alloc (.cells #[.bool true, .slice A n c] 25)).alloc (.cells #[.bool true, .slice A' n' c'] 25)).alloc (.cells #[.bool false, .slice none 0 0] 25)) (w.heap.size + 1 + 1 + 1) (by simp))
  go_enter Tryd.func25, Tryd.ntmps25
  have ka0 := ka.1
  have ka1 := ka.2
  have kb0 := kb.1
  have kb1 := kb.2
  have kq0 := kq.1
  have kq1 := kq.2.1
  have kq2 := kq.2.2.1
  have kq3 := kq.2.2.2
  have kr0 := kr.1
  have kr1 := kr.2.1
  have kr2 := kr.2.2.1
  have kr3 := kr.2.2.2
  go_wp2_with fail
  refine (div_n hm hm' (by omega) H.out).mono ?_
  clear ka0 ka1 kb0 kb1 kq0 kq1 kq2 kq3 kr0 kr1 kr2 kr3
  rintro e w1 ⟨v1, v2, rfl, z1, z2, bb⟩
  have hm := hm.below bb
  have hm' := hm'.below bb
  have ka := ka.below bb
  have kb := kb.below bb
  have kq := kq.below bb
  have kr := kr.below bb
  have B0 := B0.trans (bb.mono B0.size)
  clear bb
  obtain ⟨A2, n2, c2, rfl, _, _⟩ := z2.nm.form
  have hn2 : 0 < n2 := by have h1 := z2.len0.1.1; have h2 := H'.out; omega
  have ka0 := ka.1
  have ka1 := ka.2
  have kb0 := kb.1
  have kb1 := kb.2
  have kq0 := kq.1
  have kq1 := kq.2.1
  have kq2 := kq.2.2.1
  have kq3 := kq.2.2.2
  have kr0 := kr.1
  have kr1 := kr.2.1
  have kr2 := kr.2.2.1
  have kr3 := kr.2.2.2
  go_wp2_with fail
  refine (of_z 1 1 rfl (by omega)).mono ?_
  clear ka0 ka1 kb0 kb1 kq0 kq1 kq2 kq3 kr0 kr1 kr2 kr3
  rintro e w2 ⟨v3, rfl, z3, bb⟩
  have hm' := hm'.below bb
  have ka := ka.below bb
  have kb := kb.below bb
  have kq := kq.below bb
  have kr := kr.below bb
  have z1 := z1.below bb
  have z2 := z2.below bb
  have B0 := B0.trans (bb.mono B0.size)
  clear bb
  have ka0 := ka.1
  have ka1 := ka.2
  have kb0 := kb.1
  have kb1 := kb.2
  have kq0 := kq.1
  have kq1 := kq.2.1
  have kq2 := kq.2.2.1
  have kq3 := kq.2.2.2
  have kr0 := kr.1
  have kr1 := kr.2.1
  have kr2 := kr.2.2.1
  have kr3 := kr.2.2.2
  go_wp2_with fail
  refine (add_n z1.nm z3.nm (by omega) (by omega)).mono ?_
  clear ka0 ka1 kb0 kb1 kq0 kq1 kq2 kq3 kr0 kr1 kr2 kr3
  rintro e w3 ⟨v4, rfl, z4, bb⟩
  have hm' := hm'.below bb
  have ka := ka.below bb
  have kb := kb.below bb
  have kq := kq.below bb
  have kr := kr.below bb
  have z1 := z1.below bb
  have z2 := z2.below bb
  have z3 := z3.below bb
  have B0 := B0.trans (bb.mono B0.size)
  clear bb
  have ka0 := ka.1
  have ka1 := ka.2
  have kb0 := kb.1
  have kb1 := kb.2
  have kq0 := kq.1
  have kq1 := kq.2.1
  have kq2 := kq.2.2.1
  have kq3 := kq.2.2.2
  have kr0 := kr.1
  have kr1 := kr.2.1
  have kr2 := kr.2.2.1
  have kr3 := kr.2.2.2
  go_wp2_with fail
  refine (sub_n hm' z2.nm (by omega) H2.out).mono ?_
  clear ka0 ka1 kb0 kb1 kq0 kq1 kq2 kq3 kr0 kr1 kr2 kr3
  rintro e w4 ⟨v5, rfl, z5, bb⟩
  have hm' := hm'.below bb
  have ka := ka.below bb
  have kb := kb.below bb
  have kq := kq.below bb
  have kr := kr.below bb
  have z2 := z2.below bb
  have z4 := z4.below bb
  have B0 := B0.trans (bb.mono B0.size)
  clear bb
  have z4 := z4.wide' (k' := k + 3) (by omega)
  have ka0 := ka.1
  have ka1 := ka.2
  have kb0 := kb.1
  have kb1 := kb.2
  have kq0 := kq.1
  have kq1 := kq.2.1
  have kq2 := kq.2.2.1
  have kq3 := kq.2.2.2
  have kr0 := kr.1
  have kr1 := kr.2.1
  have kr2 := kr.2.2.1
  have kr3 := kr.2.2.2
  go_wp2_with fail
  refine (signed_i false z4 _ rfl).mono ?_
  clear ka0 ka1 kb0 kb1 kq0 kq1 kq2 kq3 kr0 kr1 kr2 kr3
  rintro e w5 ⟨vq, rfl, zq, bb⟩
  have ka := ka.below bb
  have kb := kb.below bb
  have kq := kq.below bb
  have kr := kr.below bb
  have z4 := z4.below bb
  have z5 := z5.below bb
  have B0 := B0.trans (bb.mono B0.size)
  clear bb
  obtain ⟨bq, Aq, nq, cq, rfl, zq⟩ := zq.cells
  have ka0 := ka.1
  have ka1 := ka.2
  have kb0 := kb.1
  have kb1 := kb.2
  have kq0 := kq.1
  have kq1 := kq.2.1
  have kq2 := kq.2.2.1
  have kq3 := kq.2.2.2
  have kr0 := kr.1
  have kr1 := kr.2.1
  have kr2 := kr.2.2.1
  have kr3 := kr.2.2.2
  go_wp2_with fail
  refine (signed_i false z5 _ rfl).mono ?_
  clear ka0 ka1 kb0 kb1 kq0 kq1 kq2 kq3 kr0 kr1 kr2 kr3
  rintro e w6 ⟨vr, rfl, zr, bb⟩
  have ka := ka.below bb
  have kb := kb.below bb
  have kq := kq.below bb
  have kr := kr.below bb
  have z4 := z4.below bb
  have z5 := z5.below bb
  have zq := zq.below bb
  have B0 := B0.trans (bb.mono B0.size)
  clear bb
  obtain ⟨br, Ar, nr, cr, rfl, zr⟩ := zr.cells
  have ka0 := ka.1
  have ka1 := ka.2
  have kb0 := kb.1
  have kb1 := kb.2
  have kq0 := kq.1
  have kq1 := kq.2.1
  have kq2 := kq.2.2.1
  have kq3 := kq.2.2.2
  have kr0 := kr.1
  have kr1 := kr.2.1
  have kr2 := kr.2.2.1
  have kr3 := kr.2.2.2
  go_wp2
  refine bodyPost_ret (v := .tuple #[.agg #[.bool bq, .slice Aq nq cq], .agg #[.bool br, .slice Ar nr cr], .bool true]) (by simp [results, Tryd.results25, go_sem, kq0, kq1, kr0, kr1]) rfl ⟨_, _, rfl, (zq.ret kq _ _).ret (kr.ret (by omega) _ _) _ _, (zr.ret kq _ _).ret (kr.ret (by omega) _ _) _ _, below_ret (below_ret B0 (by omega) _ _) (by omega) _ _⟩
/-- What the quotient and the remainder are: said of signs and magnitudes. -/
theorem ediv_of {z y q r : Int} (hy : y ≠ 0) (h : z = q * y + r) (h0 : 0 ≤ r) (h1 : r < y.natAbs) : q = z / y ∧ r = z % y := by
  have e1 := Int.mul_ediv_add_emod z y
  have e2 := Int.emod_nonneg z hy
  have e3 := Int.emod_lt z hy
  have e4 : (q - z / y) * y = z % y - r := by rw [Int.sub_mul]; rw [Int.mul_comm y] at e1; omega
  have e5 : q = z / y := by
    rcases Int.lt_trichotomy (q - z / y) 0 with hlt | heq | hgt
    · have h3 : (y.natAbs : Int) ≤ ((q - z / y) * y).natAbs := by
        rw [Int.natAbs_mul]
        have : 1 ≤ (q - z / y).natAbs := by omega
        exact_mod_cast Nat.le_mul_of_pos_left _ this
      rw [e4] at h3
      omega
    · omega
    · have h3 : (y.natAbs : Int) ≤ ((q - z / y) * y).natAbs := by
        rw [Int.natAbs_mul]
        have : 1 ≤ (q - z / y).natAbs := by omega
        exact_mod_cast Nat.le_mul_of_pos_left _ this
      rw [e4] at h3
      omega
  refine ⟨e5, ?_⟩
  rw [e5, Int.sub_self, Int.zero_mul] at e4
  omega
theorem sgn_abs (b : Bool) (m : Nat) : (sgn b m).natAbs = m := by cases b <;> simp [sgn]
theorem div_p (b c : Bool) (m m' : Nat) (h : 0 < m') (hb : b = false ∨ m % m' = 0) : sgn (!(b == c)) (m / m') = sgn b m / sgn c m' ∧ sgn false (m % m') = sgn b m % sgn c m' := by
  have e := Nat.mod_add_div m m'
  have hl := Nat.mod_lt m h
  have hz : ((m' * (m / m') : Nat) : Int) = (m' : Int) * ((m / m' : Nat) : Int) := by push_cast; rfl
  refine ediv_of ?_ ?_ ?_ ?_
  · cases c <;> simp [sgn] <;> omega
  · generalize m / m' = q at *
    generalize m % m' = r at *
    have e' : (m : Int) = (q : Int) * (m' : Int) + r := by rw [Int.mul_comm]; omega
    cases b <;> cases c <;> simp [sgn, Int.neg_mul, Int.mul_neg] at hb ⊢ <;> omega
  · rw [sgn_false]; omega
  · rw [sgn_abs, sgn_false]; omega
theorem div_m (c : Bool) (m m' : Nat) (h : 0 < m') : sgn (!(true == c)) (m / m' + 1) = sgn true m / sgn c m' ∧ (0 < m % m' → sgn false (m' - m % m') = sgn true m % sgn c m') ∨ m % m' = 0 := by
  rcases Nat.eq_zero_or_pos (m % m') with h0 | h0
  · exact .inr h0
  refine .inl ?_
  have e := Nat.mod_add_div m m'
  have hl := Nat.mod_lt m h
  have hz : ((m' * (m / m') : Nat) : Int) = (m' : Int) * ((m / m' : Nat) : Int) := by push_cast; rfl
  have key := ediv_of (z := sgn true m) (y := sgn c m') (q := sgn (!(true == c)) (m / m' + 1)) (r := sgn false (m' - m % m')) ?_ ?_ ?_ ?_
  · exact ⟨key.1, fun _ => key.2⟩
  · cases c <;> simp [sgn] <;> omega
  · generalize m / m' = q at *
    generalize m % m' = r at *
    have e' : (m : Int) = (q : Int) * (m' : Int) + r := by rw [Int.mul_comm]; omega
    cases c <;> simp [sgn, Int.neg_mul, Int.mul_neg, Int.add_mul] <;> omega
  · rw [sgn_false]; omega
  · rw [sgn_abs, sgn_false]; omega
theorem idiv_i {w : World} {v u : Value} {z y : Int} {k j : Nat} (h : Iv w v z k) (hu : Iv w u y j) (hk : k ≤ 400) (hj : j ≤ 400) (hy : y ≠ 0) : Calls Tryd.prog 25 #[v, u] w (IDEnd (z / y) (z % y) (k + 3) j w) := by
  obtain ⟨b, A, n, c, m, rfl, hm, rfl⟩ := h
  obtain ⟨b', A', n', c', m', rfl, hm', rfl⟩ := hu
  have hp : 0 < m' := by
    rcases Nat.eq_zero_or_pos m' with h | h
    · subst h; exact absurd (sgn_zero b') hy
    · exact h
  have wide : ∀ q r, ∀ e w', IDEnd q r k j w e w' → IDEnd q r (k + 3) j w e w' := fun q r e w' ⟨v1, v2, h1, h2, h3⟩ => ⟨v1, v2, h1, h2.wide (by omega), h3⟩
  by_cases hb : b = false ∨ m % m' = 0
  · have e := div_p b b' m m' hp hb
    rw [← e.1, ← e.2]
    refine Calls.mono ?_ (wide _ _)
    cases b
    · cases b'
      · exact idiv_p_false hm hm' hk hj hp
      · exact idiv_p_true hm hm' hk hj hp
    · have h0 : m % m' = 0 := by simpa using hb
      cases b'
      · exact idiv_e_false hm hm' hk hj hp h0
      · exact idiv_e_true hm hm' hk hj hp h0
  · have h0 : 0 < m % m' := by omega
    obtain rfl : b = true := by cases b <;> simp_all
    rcases div_m b' m m' hp with e | e
    · rw [← e.1, ← e.2 h0]
      cases b'
      · exact idiv_m_false hm hm' hk hj hp h0
      · exact idiv_m_true hm hm' hk hj hp h0
    · omega
theorem idiv_i0 {w : World} {v u : Value} {z y : Int} {k j : Nat} (h : Iv w v z k) (hu : Iv w u y j) (hk : k ≤ 400) (hj : j ≤ 400) (hy : y = 0) : Calls Tryd.prog 25 #[v, u] w (ID0End w) := by
  obtain ⟨b, A, n, c, m, rfl, hm, rfl⟩ := h
  obtain ⟨b', A', n', c', m', rfl, hm', rfl⟩ := hu
  have h0 : m' = 0 := by have := sgn_abs b' m'; rw [hy] at this; simpa using this.symm
  exact idiv_0 hm hm' hk hj h0
end Go.Proofs.YthcoemkbdllcfaaDoor
