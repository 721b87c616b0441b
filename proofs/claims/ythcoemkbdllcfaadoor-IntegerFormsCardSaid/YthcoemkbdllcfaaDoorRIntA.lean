/-
  The walks of garmentref02.make1, Norm, Neg, Add, Sub, Mul, Of and Short.
-/
import Derived.Test.YthcoemkbdllcfaaDoorIntC
import Derived.Test.YthcoemkbdllcfaaDoorRefF
namespace Go.Proofs.YthcoemkbdllcfaaDoor
open Go.RowKit
attribute [local go_sem ↓] Go.wp_at_zero Go.wp_at_succ
set_option linter.unusedVariables false

theorem sgn_len {w : World} {A : Option Addr} {n c m k : Nat} (h : Nz w (.slice A n c) m k) : Iz w (.agg #[.bool (decide (0 < n)), .slice A n c]) (sgn true m) k := by
  have := Iz.mk true h _ rfl
  simpa using this
set_option maxRecDepth 20000 in
set_option maxHeartbeats 1000000 in
theorem make1_false {w : World} {v : Value} {m k : Nat} (hm : Nm w v m k) (hk : k ≤ 900) : Calls Tryd.prog 41 #[.bool false, v] w (IEnd (sgn false m) k w) := by
  have B0 := below_a1 w (.cells #[.bool false, .slice none 0 0] 25)
  have hm := hm.below B0
  have kr := (Rx.new w (w.heap.size) (by simp))
  go_enter Tryd.func41, Tryd.ntmps41
  have kr0 := kr.1
  have kr1 := kr.2.1
  have kr2 := kr.2.2.1
  have kr3 := kr.2.2.2
  go_wp2_with fail
  refine (rnorm_n hm (by omega)).mono ?_
  clear kr0 kr1 kr2 kr3
  rintro e w1 ⟨v1, rfl, z1, bb⟩
  have hm := hm.below bb
  have kr := kr.below bb
  have B0 := B0.trans (bb.mono B0.size)
  clear bb
  have z1 := z1.nz
  obtain ⟨A2, n2, c2, rfl, _, _⟩ := z1.nm.form
  have zr := Iz.mk false z1 _ rfl
  simp only [Bool.false_and] at zr
  have kr0 := kr.1
  have kr1 := kr.2.1
  have kr2 := kr.2.2.1
  have kr3 := kr.2.2.2
  go_wp2
  refine bodyPost_ret (v := .agg #[.bool false, .slice A2 n2 c2]) (by simp [results, Tryd.results41, go_sem, kr0, kr1]) rfl ⟨_, rfl, zr.ret kr _ _, below_ret B0 (by omega) _ _⟩
set_option maxRecDepth 20000 in
set_option maxHeartbeats 1000000 in
theorem make1_true {w : World} {v : Value} {m k : Nat} (hm : Nm w v m k) (hk : k ≤ 900) : Calls Tryd.prog 41 #[.bool true, v] w (IEnd (sgn true m) k w) := by
  have B0 := below_a1 w (.cells #[.bool false, .slice none 0 0] 25)
  have hm := hm.below B0
  have kr := (Rx.new w (w.heap.size) (by simp))
  go_enter Tryd.func41, Tryd.ntmps41
  have kr0 := kr.1
  have kr1 := kr.2.1
  have kr2 := kr.2.2.1
  have kr3 := kr.2.2.2
  go_wp2_with fail
  refine (rnorm_n hm (by omega)).mono ?_
  clear kr0 kr1 kr2 kr3
  rintro e w1 ⟨v1, rfl, z1, bb⟩
  have hm := hm.below bb
  have kr := kr.below bb
  have B0 := B0.trans (bb.mono B0.size)
  clear bb
  have z1 := z1.nz
  obtain ⟨A2, n2, c2, rfl, _, _⟩ := z1.nm.form
  have zr := sgn_len z1
  have kr0 := kr.1
  have kr1 := kr.2.1
  have kr2 := kr.2.2.1
  have kr3 := kr.2.2.2
  go_wp2
  refine bodyPost_ret (v := .agg #[.bool (decide (0 < n2)), .slice A2 n2 c2]) (by simp [results, Tryd.results41, go_sem, kr0, kr1]) rfl ⟨_, rfl, zr.ret kr _ _, below_ret B0 (by omega) _ _⟩
theorem make1_i {w : World} {v : Value} {m k : Nat} (b : Bool) (hm : Nm w v m k) (hk : k ≤ 900) (z : Int) (hz : z = sgn b m) : Calls Tryd.prog 41 #[.bool b, v] w (IEnd z k w) := by
  subst hz
  cases b
  · exact make1_false hm hk
  · exact make1_true hm hk
set_option maxRecDepth 20000 in
set_option maxHeartbeats 1000000 in
theorem rnorm_i {w : World} {v : Value} {z : Int} {k : Nat} (h : Iv w v z k) (hk : k ≤ 900) : Calls Tryd.prog 16 #[v] w (IEnd (z) k w) := by
  obtain ⟨b, A, n, c, m, rfl, hm, hz⟩ := h
  have HZ : Hid (z = sgn b m) := by show _ = _; rw [hz]
  clear hz
  have B0 := below_a2 w (.cells #[.bool b, .slice A n c] 25) (.cells #[.bool false, .slice none 0 0] 25)
  have hm := hm.below B0
  have ka := ((Bx.new w (w.heap.size) (by simp) (.bool b) (.slice A n c)).below (below_alloc (w.alloc (.cells #[.bool b, .slice A n c] 25)) (.cells #[.bool false, .slice none 0 0] 25)))
  have kr := (Rx.new (w.alloc (.cells #[.bool b, .slice A n c] 25)) (w.heap.size + 1) (by simp))
  go_enter Tryd.func16, Tryd.ntmps16
  have ka0 := ka.1
  have ka1 := ka.2
  have kr0 := kr.1
  have kr1 := kr.2.1
  have kr2 := kr.2.2.1
  have kr3 := kr.2.2.2
  go_wp2_with fail
  refine (make1_i b hm (by omega) _ HZ.out).mono ?_
  clear ka0 ka1 kr0 kr1 kr2 kr3
  rintro e w1 ⟨vr, rfl, zr, bb⟩
  have hm := hm.below bb
  have ka := ka.below bb
  have kr := kr.below bb
  have B0 := B0.trans (bb.mono B0.size)
  clear bb
  obtain ⟨br, Ar, nr, cr, rfl, zr⟩ := zr.cells
  have ka0 := ka.1
  have ka1 := ka.2
  have kr0 := kr.1
  have kr1 := kr.2.1
  have kr2 := kr.2.2.1
  have kr3 := kr.2.2.2
  go_wp2
  refine bodyPost_ret (v := .agg #[.bool br, .slice Ar nr cr]) (by simp [results, Tryd.results16, go_sem, kr0, kr1]) rfl ⟨_, rfl, zr.ret kr _ _, below_ret B0 (by omega) _ _⟩
set_option maxRecDepth 20000 in
set_option maxHeartbeats 1000000 in
theorem rneg_i {w : World} {v : Value} {z : Int} {k : Nat} (h : Iv w v z k) (hk : k ≤ 900) : Calls Tryd.prog 20 #[v] w (IEnd (-z) k w) := by
  obtain ⟨b, A, n, c, m, rfl, hm, hz⟩ := h
  have HZ : Hid (-z = sgn (!b) m) := by show _ = _; rw [hz]; exact (sgn_not b m).symm
  clear hz
  have B0 := below_a2 w (.cells #[.bool b, .slice A n c] 25) (.cells #[.bool false, .slice none 0 0] 25)
  have hm := hm.below B0
  have ka := ((Bx.new w (w.heap.size) (by simp) (.bool b) (.slice A n c)).below (below_alloc (w.alloc (.cells #[.bool b, .slice A n c] 25)) (.cells #[.bool false, .slice none 0 0] 25)))
  have kr := (Rx.new (w.alloc (.cells #[.bool b, .slice A n c] 25)) (w.heap.size + 1) (by simp))
  go_enter Tryd.func20, Tryd.ntmps20
  have ka0 := ka.1
  have ka1 := ka.2
  have kr0 := kr.1
  have kr1 := kr.2.1
  have kr2 := kr.2.2.1
  have kr3 := kr.2.2.2
  go_wp2_with fail
  refine (make1_i (!b) hm (by omega) _ HZ.out).mono ?_
  clear ka0 ka1 kr0 kr1 kr2 kr3
  rintro e w1 ⟨vr, rfl, zr, bb⟩
  have hm := hm.below bb
  have ka := ka.below bb
  have kr := kr.below bb
  have B0 := B0.trans (bb.mono B0.size)
  clear bb
  obtain ⟨br, Ar, nr, cr, rfl, zr⟩ := zr.cells
  have ka0 := ka.1
  have ka1 := ka.2
  have kr0 := kr.1
  have kr1 := kr.2.1
  have kr2 := kr.2.2.1
  have kr3 := kr.2.2.2
  go_wp2
  refine bodyPost_ret (v := .agg #[.bool br, .slice Ar nr cr]) (by simp [results, Tryd.results20, go_sem, kr0, kr1]) rfl ⟨_, rfl, zr.ret kr _ _, below_ret B0 (by omega) _ _⟩
set_option maxRecDepth 20000 in
set_option maxHeartbeats 1000000 in
theorem rimul_i {w : World} {v u : Value} {z y : Int} {k j : Nat} (h : Iv w v z k) (hu : Iv w u y j) (hk : k ≤ 400) (hj : j ≤ 400) : Calls Tryd.prog 28 #[v, u] w (IEnd (z * y) (k + j) w) := by
  obtain ⟨b, A, n, c, m, rfl, hm, hz⟩ := h
  obtain ⟨b', A', n', c', m', rfl, hm', hy⟩ := hu
  have HZ : Hid (z * y = sgn (!(b == b')) (m * m')) := by show _ = _; rw [hz, hy]; exact (sgn_mul b b' m m').symm
  clear hz hy
  have B0 := below_a3 w (.cells #[.bool b, .slice A n c] 25) (.cells #[.bool b', .slice A' n' c'] 25) (.cells #[.bool false, .slice none 0 0] 25)
  have hm := hm.below B0
  have hm' := hm'.below B0
  have ka := (((Bx.new w (w.heap.size) (by simp) (.bool b) (.slice A n c)).below (below_alloc (w.alloc (.cells #[.bool b, .slice A n c] 25)) (.cells #[.bool b', .slice A' n' c'] 25))).below (below_alloc ((w.alloc (.cells #[.bool b, .slice A n c] 25)).alloc (.cells #[.bool b', .slice A' n' c'] 25)) (.cells #[.bool false, .slice none 0 0] 25)))
  have kb := ((Bx.new (w.alloc (.cells #[.bool b, .slice A n c] 25)) (w.heap.size + 1) (by simp) (.bool b') (.slice A' n' c')).below (below_alloc ((w.alloc (.cells #[.bool b, .slice A n c] 25)).alloc (.cells #[.bool b', .slice A' n' c'] 25)) (.cells #[.bool false, .slice none 0 0] 25)))
  have kr := (Rx.new ((w.alloc (.cells #[.bool b, .slice A n c] 25)).alloc (.cells #[.bool b', .slice A' n' c'] 25)) (w.heap.size + 1 + 1) (by simp))
  go_enter Tryd.func28, Tryd.ntmps28
  go_wp2_with fail
  have hm := hm.drew
  have hm' := hm'.drew
  have ka := ka.drew
  have kb := kb.drew
  have kr := kr.drew
  have B0 := b_drew B0
  go_region_held3 (fun w' => w'.cell? ⟨w.heap.size, 0, none⟩ = some (.bool b) ∧ w'.cell? ⟨w.heap.size, 1, none⟩ = some (.slice A n c) ∧ w'.cell? ⟨w.heap.size + 1, 0, none⟩ = some (.bool b') ∧ w'.cell? ⟨w.heap.size + 1, 1, none⟩ = some (.slice A' n' c')) (first | exact ⟨ka.1, ka.2, kb.1, kb.2⟩ | exact ⟨(ka.ret (r := w.heap.size + 1 + 1) (by omega) _ _).1, (ka.ret (r := w.heap.size + 1 + 1) (by omega) _ _).2, (kb.ret (r := w.heap.size + 1 + 1) (by omega) _ _).1, (kb.ret (r := w.heap.size + 1 + 1) (by omega) _ _).2⟩)
    (first
      | (go_at_call 56; (with_reducible refine (rmul_n hm hm' ?_ ?_).mono ?_); omega; omega; rintro e w1 ⟨v1, rfl, z1, bb⟩; have hm := hm.below bb; have hm' := hm'.below bb; have ka := ka.below bb; have kb := kb.below bb; have kr := kr.below bb; have B0 := B0.trans (bb.mono B0.size); clear bb)
      | (go_at_call 41; (with_reducible refine (make1_i (!(b == b')) z1.nz.nm ?_ _ HZ.out).mono ?_); omega; rintro e w2 ⟨vr, rfl, zr, bb⟩; have ka := ka.below bb; have kb := kb.below bb; have kr := kr.below bb; have B0 := B0.trans (bb.mono B0.size); clear bb; obtain ⟨br, Ar, nr, cr, rfl, zr⟩ := zr.cells; have kr0 := kr.1; have kr1 := kr.2.1; have kr2 := kr.2.2.1; have kr3 := kr.2.2.2))
  go_wp2
  refine bodyPost_ret (v := .agg #[.bool br, .slice Ar nr cr]) (by simp [results, Tryd.results28, go_sem, kr0, kr1]) rfl ⟨_, rfl, zr.ret kr _ _, below_ret B0 (by omega) _ _⟩
set_option maxRecDepth 20000 in
set_option maxHeartbeats 1000000 in
theorem riadd_same (b : Bool) {A A' : Option Addr} {n n' c c' m m' k j : Nat} {w : World} (hm : Nm w (.slice A n c) m k) (hm' : Nm w (.slice A' n' c') m' j) (hk : k ≤ 400) (hj : j ≤ 400) : Calls Tryd.prog 22 #[.agg #[.bool b, .slice A n c], .agg #[.bool b, .slice A' n' c']] w (IEnd (sgn b (m + m')) (max k j + 1) w) := by
  cases b
  · have B0 := below_a3 w (.cells #[.bool false, .slice A n c] 25) (.cells #[.bool false, .slice A' n' c'] 25) (.cells #[.bool false, .slice none 0 0] 25)
    have hm := hm.below B0
    have hm' := hm'.below B0
    have ka := (((Bx.new w (w.heap.size) (by simp) (.bool false) (.slice A n c)).below (below_alloc (w.alloc (.cells #[.bool false, .slice A n c] 25)) (.cells #[.bool false, .slice A' n' c'] 25))).below (below_alloc ((w.alloc (.cells #[.bool false, .slice A n c] 25)).alloc (.cells #[.bool false, .slice A' n' c'] 25)) (.cells #[.bool false, .slice none 0 0] 25)))
    have kb := ((Bx.new (w.alloc (.cells #[.bool false, .slice A n c] 25)) (w.heap.size + 1) (by simp) (.bool false) (.slice A' n' c')).below (below_alloc ((w.alloc (.cells #[.bool false, .slice A n c] 25)).alloc (.cells #[.bool false, .slice A' n' c'] 25)) (.cells #[.bool false, .slice none 0 0] 25)))
    have kr := (Rx.new ((w.alloc (.cells #[.bool false, .slice A n c] 25)).alloc (.cells #[.bool false, .slice A' n' c'] 25)) (w.heap.size + 1 + 1) (by simp))
    go_enter Tryd.func22, Tryd.ntmps22
    go_wp2_with fail
    have hm := hm.drew
    have hm' := hm'.drew
    have ka := ka.drew
    have kb := kb.drew
    have kr := kr.drew
    have B0 := b_drew B0
    go_region_held3 (fun w' => w'.cell? ⟨w.heap.size, 0, none⟩ = some (.bool false) ∧ w'.cell? ⟨w.heap.size, 1, none⟩ = some (.slice A n c) ∧ w'.cell? ⟨w.heap.size + 1, 0, none⟩ = some (.bool false) ∧ w'.cell? ⟨w.heap.size + 1, 1, none⟩ = some (.slice A' n' c')) (first | exact ⟨ka.1, ka.2, kb.1, kb.2⟩ | exact ⟨(ka.ret (r := w.heap.size + 1 + 1) (by omega) _ _).1, (ka.ret (r := w.heap.size + 1 + 1) (by omega) _ _).2, (kb.ret (r := w.heap.size + 1 + 1) (by omega) _ _).1, (kb.ret (r := w.heap.size + 1 + 1) (by omega) _ _).2⟩)
      (first
        | (go_at_call 48; (with_reducible refine (radd_n hm hm' ?_ ?_).mono ?_); omega; omega; rintro e w1 ⟨v1, rfl, z1, bb⟩; have hm := hm.below bb; have hm' := hm'.below bb; have ka := ka.below bb; have kb := kb.below bb; have kr := kr.below bb; have B0 := B0.trans (bb.mono B0.size); clear bb)
        | (go_at_call 41; (with_reducible refine (make1_i false z1.nz.nm ?_ _ rfl).mono ?_); omega; rintro e w2 ⟨vr, rfl, zr, bb⟩; have ka := ka.below bb; have kb := kb.below bb; have kr := kr.below bb; have B0 := B0.trans (bb.mono B0.size); clear bb; obtain ⟨br, Ar, nr, cr, rfl, zr⟩ := zr.cells; have kr0 := kr.1; have kr1 := kr.2.1; have kr2 := kr.2.2.1; have kr3 := kr.2.2.2))
    go_wp2
    refine bodyPost_ret (v := .agg #[.bool br, .slice Ar nr cr]) (by simp [results, Tryd.results22, go_sem, kr0, kr1]) rfl ⟨_, rfl, zr.ret kr _ _, below_ret B0 (by omega) _ _⟩
  · have B0 := below_a3 w (.cells #[.bool true, .slice A n c] 25) (.cells #[.bool true, .slice A' n' c'] 25) (.cells #[.bool false, .slice none 0 0] 25)
    have hm := hm.below B0
    have hm' := hm'.below B0
    have ka := (((Bx.new w (w.heap.size) (by simp) (.bool true) (.slice A n c)).below (below_alloc (w.alloc (.cells #[.bool true, .slice A n c] 25)) (.cells #[.bool true, .slice A' n' c'] 25))).below (below_alloc ((w.alloc (.cells #[.bool true, .slice A n c] 25)).alloc (.cells #[.bool true, .slice A' n' c'] 25)) (.cells #[.bool false, .slice none 0 0] 25)))
    have kb := ((Bx.new (w.alloc (.cells #[.bool true, .slice A n c] 25)) (w.heap.size + 1) (by simp) (.bool true) (.slice A' n' c')).below (below_alloc ((w.alloc (.cells #[.bool true, .slice A n c] 25)).alloc (.cells #[.bool true, .slice A' n' c'] 25)) (.cells #[.bool false, .slice none 0 0] 25)))
    have kr := (Rx.new ((w.alloc (.cells #[.bool true, .slice A n c] 25)).alloc (.cells #[.bool true, .slice A' n' c'] 25)) (w.heap.size + 1 + 1) (by simp))
    go_enter Tryd.func22, Tryd.ntmps22
    go_wp2_with fail
    have hm := hm.drew
    have hm' := hm'.drew
    have ka := ka.drew
    have kb := kb.drew
    have kr := kr.drew
    have B0 := b_drew B0
    go_region_held3 (fun w' => w'.cell? ⟨w.heap.size, 0, none⟩ = some (.bool true) ∧ w'.cell? ⟨w.heap.size, 1, none⟩ = some (.slice A n c) ∧ w'.cell? ⟨w.heap.size + 1, 0, none⟩ = some (.bool true) ∧ w'.cell? ⟨w.heap.size + 1, 1, none⟩ = some (.slice A' n' c')) (first | exact ⟨ka.1, ka.2, kb.1, kb.2⟩ | exact ⟨(ka.ret (r := w.heap.size + 1 + 1) (by omega) _ _).1, (ka.ret (r := w.heap.size + 1 + 1) (by omega) _ _).2, (kb.ret (r := w.heap.size + 1 + 1) (by omega) _ _).1, (kb.ret (r := w.heap.size + 1 + 1) (by omega) _ _).2⟩)
      (first
        | (go_at_call 48; (with_reducible refine (radd_n hm hm' ?_ ?_).mono ?_); omega; omega; rintro e w1 ⟨v1, rfl, z1, bb⟩; have hm := hm.below bb; have hm' := hm'.below bb; have ka := ka.below bb; have kb := kb.below bb; have kr := kr.below bb; have B0 := B0.trans (bb.mono B0.size); clear bb)
        | (go_at_call 41; (with_reducible refine (make1_i true z1.nz.nm ?_ _ rfl).mono ?_); omega; rintro e w2 ⟨vr, rfl, zr, bb⟩; have ka := ka.below bb; have kb := kb.below bb; have kr := kr.below bb; have B0 := B0.trans (bb.mono B0.size); clear bb; obtain ⟨br, Ar, nr, cr, rfl, zr⟩ := zr.cells; have kr0 := kr.1; have kr1 := kr.2.1; have kr2 := kr.2.2.1; have kr3 := kr.2.2.2))
    go_wp2
    refine bodyPost_ret (v := .agg #[.bool br, .slice Ar nr cr]) (by simp [results, Tryd.results22, go_sem, kr0, kr1]) rfl ⟨_, rfl, zr.ret kr _ _, below_ret B0 (by omega) _ _⟩
set_option maxRecDepth 20000 in
set_option maxHeartbeats 1000000 in
theorem riadd_ge (b : Bool) {A A' : Option Addr} {n n' c c' m m' k j : Nat} {w : World} (hm : Nm w (.slice A n c) m k) (hm' : Nm w (.slice A' n' c') m' j) (hk : k ≤ 400) (hj : j ≤ 400) (h : m' ≤ m) : Calls Tryd.prog 22 #[.agg #[.bool b, .slice A n c], .agg #[.bool (!b), .slice A' n' c']] w (IEnd (sgn b m + sgn (!b) m') (max k j + 1) w) := by
  have H := Lib.hid h
  clear h
  cases b
  · have B0 := below_a3 w (.cells #[.bool false, .slice A n c] 25) (.cells #[.bool true, .slice A' n' c'] 25) (.cells #[.bool false, .slice none 0 0] 25)
    have hm := hm.below B0
    have hm' := hm'.below B0
    have ka := (((Bx.new w (w.heap.size) (by simp) (.bool false) (.slice A n c)).below (below_alloc (w.alloc (.cells #[.bool false, .slice A n c] 25)) (.cells #[.bool true, .slice A' n' c'] 25))).below (below_alloc ((w.alloc (.cells #[.bool false, .slice A n c] 25)).alloc (.cells #[.bool true, .slice A' n' c'] 25)) (.cells #[.bool false, .slice none 0 0] 25)))
    have kb := ((Bx.new (w.alloc (.cells #[.bool false, .slice A n c] 25)) (w.heap.size + 1) (by simp) (.bool true) (.slice A' n' c')).below (below_alloc ((w.alloc (.cells #[.bool false, .slice A n c] 25)).alloc (.cells #[.bool true, .slice A' n' c'] 25)) (.cells #[.bool false, .slice none 0 0] 25)))
    have kr := (Rx.new ((w.alloc (.cells #[.bool false, .slice A n c] 25)).alloc (.cells #[.bool true, .slice A' n' c'] 25)) (w.heap.size + 1 + 1) (by simp))
    go_enter Tryd.func22, Tryd.ntmps22
    have ka0 := ka.1
    have ka1 := ka.2
    have kb0 := kb.1
    have kb1 := kb.2
    have kr0 := kr.1
    have kr1 := kr.2.1
    have kr2 := kr.2.2.1
    have kr3 := kr.2.2.2
    go_wp2_with fail
    refine (rsub_n hm hm' (by omega) (by omega) H.out).mono ?_
    clear ka0 ka1 kb0 kb1 kr0 kr1 kr2 kr3
    rintro e w1 ⟨v1, rfl, z1, bb⟩
    have hm := hm.below bb
    have hm' := hm'.below bb
    have ka := ka.below bb
    have kb := kb.below bb
    have kr := kr.below bb
    have B0 := B0.trans (bb.mono B0.size)
    clear bb
    have ka0 := ka.1
    have ka1 := ka.2
    have kb0 := kb.1
    have kb1 := kb.2
    have kr0 := kr.1
    have kr1 := kr.2.1
    have kr2 := kr.2.2.1
    have kr3 := kr.2.2.2
    go_wp2_with fail
    refine (make1_i false (z1.nz.wide' (k' := max k j + 1) (by omega)).nm (by omega) _ (sgn_ge false m m' H.out).symm).mono ?_
    clear ka0 ka1 kb0 kb1 kr0 kr1 kr2 kr3
    rintro e w2 ⟨vr, rfl, zr, bb⟩
    have ka := ka.below bb
    have kb := kb.below bb
    have kr := kr.below bb
    have B0 := B0.trans (bb.mono B0.size)
    clear bb
    obtain ⟨br, Ar, nr, cr, rfl, zr⟩ := zr.cells
    have ka0 := ka.1
    have ka1 := ka.2
    have kb0 := kb.1
    have kb1 := kb.2
    have kr0 := kr.1
    have kr1 := kr.2.1
    have kr2 := kr.2.2.1
    have kr3 := kr.2.2.2
    go_wp2
    refine bodyPost_ret (v := .agg #[.bool br, .slice Ar nr cr]) (by simp [results, Tryd.results22, go_sem, kr0, kr1]) rfl ⟨_, rfl, zr.ret kr _ _, below_ret B0 (by omega) _ _⟩
  · have B0 := below_a3 w (.cells #[.bool true, .slice A n c] 25) (.cells #[.bool false, .slice A' n' c'] 25) (.cells #[.bool false, .slice none 0 0] 25)
    have hm := hm.below B0
    have hm' := hm'.below B0
    have ka := (((Bx.new w (w.heap.size) (by simp) (.bool true) (.slice A n c)).below (below_alloc (w.alloc (.cells #[.bool true, .slice A n c] 25)) (.cells #[.bool false, .slice A' n' c'] 25))).below (below_alloc ((w.alloc (.cells #[.bool true, .slice A n c] 25)).alloc (.cells #[.bool false, .slice A' n' c'] 25)) (.cells #[.bool false, .slice none 0 0] 25)))
    have kb := ((Bx.new (w.alloc (.cells #[.bool true, .slice A n c] 25)) (w.heap.size + 1) (by simp) (.bool false) (.slice A' n' c')).below (below_alloc ((w.alloc (.cells #[.bool true, .slice A n c] 25)).alloc (.cells #[.bool false, .slice A' n' c'] 25)) (.cells #[.bool false, .slice none 0 0] 25)))
    have kr := (Rx.new ((w.alloc (.cells #[.bool true, .slice A n c] 25)).alloc (.cells #[.bool false, .slice A' n' c'] 25)) (w.heap.size + 1 + 1) (by simp))
    go_enter Tryd.func22, Tryd.ntmps22
    have ka0 := ka.1
    have ka1 := ka.2
    have kb0 := kb.1
    have kb1 := kb.2
    have kr0 := kr.1
    have kr1 := kr.2.1
    have kr2 := kr.2.2.1
    have kr3 := kr.2.2.2
    go_wp2_with fail
    refine (rsub_n hm hm' (by omega) (by omega) H.out).mono ?_
    clear ka0 ka1 kb0 kb1 kr0 kr1 kr2 kr3
    rintro e w1 ⟨v1, rfl, z1, bb⟩
    have hm := hm.below bb
    have hm' := hm'.below bb
    have ka := ka.below bb
    have kb := kb.below bb
    have kr := kr.below bb
    have B0 := B0.trans (bb.mono B0.size)
    clear bb
    have ka0 := ka.1
    have ka1 := ka.2
    have kb0 := kb.1
    have kb1 := kb.2
    have kr0 := kr.1
    have kr1 := kr.2.1
    have kr2 := kr.2.2.1
    have kr3 := kr.2.2.2
    go_wp2_with fail
    refine (make1_i true (z1.nz.wide' (k' := max k j + 1) (by omega)).nm (by omega) _ (sgn_ge true m m' H.out).symm).mono ?_
    clear ka0 ka1 kb0 kb1 kr0 kr1 kr2 kr3
    rintro e w2 ⟨vr, rfl, zr, bb⟩
    have ka := ka.below bb
    have kb := kb.below bb
    have kr := kr.below bb
    have B0 := B0.trans (bb.mono B0.size)
    clear bb
    obtain ⟨br, Ar, nr, cr, rfl, zr⟩ := zr.cells
    have ka0 := ka.1
    have ka1 := ka.2
    have kb0 := kb.1
    have kb1 := kb.2
    have kr0 := kr.1
    have kr1 := kr.2.1
    have kr2 := kr.2.2.1
    have kr3 := kr.2.2.2
    go_wp2
    refine bodyPost_ret (v := .agg #[.bool br, .slice Ar nr cr]) (by simp [results, Tryd.results22, go_sem, kr0, kr1]) rfl ⟨_, rfl, zr.ret kr _ _, below_ret B0 (by omega) _ _⟩
set_option maxRecDepth 20000 in
set_option maxHeartbeats 1000000 in
theorem riadd_lt (b : Bool) {A A' : Option Addr} {n n' c c' m m' k j : Nat} {w : World} (hm : Nm w (.slice A n c) m k) (hm' : Nm w (.slice A' n' c') m' j) (hk : k ≤ 400) (hj : j ≤ 400) (h : m < m') : Calls Tryd.prog 22 #[.agg #[.bool b, .slice A n c], .agg #[.bool (!b), .slice A' n' c']] w (IEnd (sgn b m + sgn (!b) m') (max k j + 1) w) := by
  have H := Lib.hid h
  clear h
  cases b
  · have B0 := below_a3 w (.cells #[.bool false, .slice A n c] 25) (.cells #[.bool true, .slice A' n' c'] 25) (.cells #[.bool false, .slice none 0 0] 25)
    have hm := hm.below B0
    have hm' := hm'.below B0
    have ka := (((Bx.new w (w.heap.size) (by simp) (.bool false) (.slice A n c)).below (below_alloc (w.alloc (.cells #[.bool false, .slice A n c] 25)) (.cells #[.bool true, .slice A' n' c'] 25))).below (below_alloc ((w.alloc (.cells #[.bool false, .slice A n c] 25)).alloc (.cells #[.bool true, .slice A' n' c'] 25)) (.cells #[.bool false, .slice none 0 0] 25)))
    have kb := ((Bx.new (w.alloc (.cells #[.bool false, .slice A n c] 25)) (w.heap.size + 1) (by simp) (.bool true) (.slice A' n' c')).below (below_alloc ((w.alloc (.cells #[.bool false, .slice A n c] 25)).alloc (.cells #[.bool true, .slice A' n' c'] 25)) (.cells #[.bool false, .slice none 0 0] 25)))
    have kr := (Rx.new ((w.alloc (.cells #[.bool false, .slice A n c] 25)).alloc (.cells #[.bool true, .slice A' n' c'] 25)) (w.heap.size + 1 + 1) (by simp))
    go_enter Tryd.func22, Tryd.ntmps22
    have ka0 := ka.1
    have ka1 := ka.2
    have kb0 := kb.1
    have kb1 := kb.2
    have kr0 := kr.1
    have kr1 := kr.2.1
    have kr2 := kr.2.2.1
    have kr3 := kr.2.2.2
    go_wp2_with fail
    refine (rsub_n0 hm hm' (by omega) (by omega) H.out).mono ?_
    clear ka0 ka1 kb0 kb1 kr0 kr1 kr2 kr3
    rintro e w1 ⟨rfl, bb⟩
    have hm := hm.below bb
    have hm' := hm'.below bb
    have ka := ka.below bb
    have kb := kb.below bb
    have kr := kr.below bb
    have B0 := B0.trans (bb.mono B0.size)
    clear bb
    have ka0 := ka.1
    have ka1 := ka.2
    have kb0 := kb.1
    have kb1 := kb.2
    have kr0 := kr.1
    have kr1 := kr.2.1
    have kr2 := kr.2.2.1
    have kr3 := kr.2.2.2
    go_wp2_with fail
    refine (rsub_n hm' hm (by omega) (by omega) (Nat.le_of_lt H.out)).mono ?_
    clear ka0 ka1 kb0 kb1 kr0 kr1 kr2 kr3
    rintro e w2 ⟨v1, rfl, z1, bb⟩
    have hm := hm.below bb
    have hm' := hm'.below bb
    have ka := ka.below bb
    have kb := kb.below bb
    have kr := kr.below bb
    have B0 := B0.trans (bb.mono B0.size)
    clear bb
    have ka0 := ka.1
    have ka1 := ka.2
    have kb0 := kb.1
    have kb1 := kb.2
    have kr0 := kr.1
    have kr1 := kr.2.1
    have kr2 := kr.2.2.1
    have kr3 := kr.2.2.2
    go_wp2_with fail
    refine (make1_i true (z1.nz.wide' (k' := max k j + 1) (by omega)).nm (by omega) _ (sgn_lt false m m' H.out).symm).mono ?_
    clear ka0 ka1 kb0 kb1 kr0 kr1 kr2 kr3
    rintro e w3 ⟨vr, rfl, zr, bb⟩
    have ka := ka.below bb
    have kb := kb.below bb
    have kr := kr.below bb
    have B0 := B0.trans (bb.mono B0.size)
    clear bb
    obtain ⟨br, Ar, nr, cr, rfl, zr⟩ := zr.cells
    have ka0 := ka.1
    have ka1 := ka.2
    have kb0 := kb.1
    have kb1 := kb.2
    have kr0 := kr.1
    have kr1 := kr.2.1
    have kr2 := kr.2.2.1
    have kr3 := kr.2.2.2
    go_wp2
    refine bodyPost_ret (v := .agg #[.bool br, .slice Ar nr cr]) (by simp [results, Tryd.results22, go_sem, kr0, kr1]) rfl ⟨_, rfl, zr.ret kr _ _, below_ret B0 (by omega) _ _⟩
  · have B0 := below_a3 w (.cells #[.bool true, .slice A n c] 25) (.cells #[.bool false, .slice A' n' c'] 25) (.cells #[.bool false, .slice none 0 0] 25)
    have hm := hm.below B0
    have hm' := hm'.below B0
    have ka := (((Bx.new w (w.heap.size) (by simp) (.bool true) (.slice A n c)).below (below_alloc (w.alloc (.cells #[.bool true, .slice A n c] 25)) (.cells #[.bool false, .slice A' n' c'] 25))).below (below_alloc ((w.alloc (.cells #[.bool true, .slice A n c] 25)).alloc (.cells #[.bool false, .slice A' n' c'] 25)) (.cells #[.bool false, .slice none 0 0] 25)))
    have kb := ((Bx.new (w.alloc (.cells #[.bool true, .slice A n c] 25)) (w.heap.size + 1) (by simp) (.bool false) (.slice A' n' c')).below (below_alloc ((w.alloc (.cells #[.bool true, .slice A n c] 25)).alloc (.cells #[.bool false, .slice A' n' c'] 25)) (.cells #[.bool false, .slice none 0 0] 25)))
    have kr := (Rx.new ((w.alloc (.cells #[.bool true, .slice A n c] 25)).alloc (.cells #[.bool false, .slice A' n' c'] 25)) (w.heap.size + 1 + 1) (by simp))
    go_enter Tryd.func22, Tryd.ntmps22
    have ka0 := ka.1
    have ka1 := ka.2
    have kb0 := kb.1
    have kb1 := kb.2
    have kr0 := kr.1
    have kr1 := kr.2.1
    have kr2 := kr.2.2.1
    have kr3 := kr.2.2.2
    go_wp2_with fail
    refine (rsub_n0 hm hm' (by omega) (by omega) H.out).mono ?_
    clear ka0 ka1 kb0 kb1 kr0 kr1 kr2 kr3
    rintro e w1 ⟨rfl, bb⟩
    have hm := hm.below bb
    have hm' := hm'.below bb
    have ka := ka.below bb
    have kb := kb.below bb
    have kr := kr.below bb
    have B0 := B0.trans (bb.mono B0.size)
    clear bb
    have ka0 := ka.1
    have ka1 := ka.2
    have kb0 := kb.1
    have kb1 := kb.2
    have kr0 := kr.1
    have kr1 := kr.2.1
    have kr2 := kr.2.2.1
    have kr3 := kr.2.2.2
    go_wp2_with fail
    refine (rsub_n hm' hm (by omega) (by omega) (Nat.le_of_lt H.out)).mono ?_
    clear ka0 ka1 kb0 kb1 kr0 kr1 kr2 kr3
    rintro e w2 ⟨v1, rfl, z1, bb⟩
    have hm := hm.below bb
    have hm' := hm'.below bb
    have ka := ka.below bb
    have kb := kb.below bb
    have kr := kr.below bb
    have B0 := B0.trans (bb.mono B0.size)
    clear bb
    have ka0 := ka.1
    have ka1 := ka.2
    have kb0 := kb.1
    have kb1 := kb.2
    have kr0 := kr.1
    have kr1 := kr.2.1
    have kr2 := kr.2.2.1
    have kr3 := kr.2.2.2
    go_wp2_with fail
    refine (make1_i false (z1.nz.wide' (k' := max k j + 1) (by omega)).nm (by omega) _ (sgn_lt true m m' H.out).symm).mono ?_
    clear ka0 ka1 kb0 kb1 kr0 kr1 kr2 kr3
    rintro e w3 ⟨vr, rfl, zr, bb⟩
    have ka := ka.below bb
    have kb := kb.below bb
    have kr := kr.below bb
    have B0 := B0.trans (bb.mono B0.size)
    clear bb
    obtain ⟨br, Ar, nr, cr, rfl, zr⟩ := zr.cells
    have ka0 := ka.1
    have ka1 := ka.2
    have kb0 := kb.1
    have kb1 := kb.2
    have kr0 := kr.1
    have kr1 := kr.2.1
    have kr2 := kr.2.2.1
    have kr3 := kr.2.2.2
    go_wp2
    refine bodyPost_ret (v := .agg #[.bool br, .slice Ar nr cr]) (by simp [results, Tryd.results22, go_sem, kr0, kr1]) rfl ⟨_, rfl, zr.ret kr _ _, below_ret B0 (by omega) _ _⟩
theorem riadd_i {w : World} {v u : Value} {z y : Int} {k j : Nat} (h : Iv w v z k) (hu : Iv w u y j) (hk : k ≤ 400) (hj : j ≤ 400) : Calls Tryd.prog 22 #[v, u] w (IEnd (z + y) (max k j + 1) w) := by
  obtain ⟨b, A, n, c, m, rfl, hm, rfl⟩ := h
  obtain ⟨b', A', n', c', m', rfl, hm', rfl⟩ := hu
  by_cases e : b' = b
  · subst e
    rw [← sgn_add]
    exact riadd_same b' hm hm' hk hj
  · obtain rfl : b' = !b := by cases b <;> cases b' <;> simp_all
    rcases Nat.lt_or_ge m m' with h | h
    · exact riadd_lt b hm hm' hk hj h
    · exact riadd_ge b hm hm' hk hj h
set_option maxRecDepth 20000 in
set_option maxHeartbeats 1000000 in
theorem risub_i {w : World} {v u : Value} {z y : Int} {k j : Nat} (h : Iv w v z k) (hu : Iv w u y j) (hk : k ≤ 400) (hj : j ≤ 400) : Calls Tryd.prog 24 #[v, u] w (IEnd (z - y) (max k j + 1) w) := by
  obtain ⟨b, A, n, c, m, rfl, hm, hz⟩ := h
  obtain ⟨b', A', n', c', m', rfl, hm', hy⟩ := hu
  have h : Iv w (.agg #[.bool b, .slice A n c]) z k := ⟨b, A, n, c, m, rfl, hm, hz⟩
  have hu : Iv w (.agg #[.bool b', .slice A' n' c']) y j := ⟨b', A', n', c', m', rfl, hm', hy⟩
  have HZ : Hid (z - y = z + -y) := by show _ = _; omega
  clear hz hy hm hm'
  rw [HZ.out]
  clear HZ
  have B0 := below_a3 w (.cells #[.bool b, .slice A n c] 25) (.cells #[.bool b', .slice A' n' c'] 25) (.cells #[.bool false, .slice none 0 0] 25)
  have h := h.below B0
  have hu := hu.below B0
  have ka := (((Bx.new w (w.heap.size) (by simp) (.bool b) (.slice A n c)).below (below_alloc (w.alloc (.cells #[.bool b, .slice A n c] 25)) (.cells #[.bool b', .slice A' n' c'] 25))).below (below_alloc ((w.alloc (.cells #[.bool b, .slice A n c] 25)).alloc (.cells #[.bool b', .slice A' n' c'] 25)) (.cells #[.bool false, .slice none 0 0] 25)))
  have kb := ((Bx.new (w.alloc (.cells #[.bool b, .slice A n c] 25)) (w.heap.size + 1) (by simp) (.bool b') (.slice A' n' c')).below (below_alloc ((w.alloc (.cells #[.bool b, .slice A n c] 25)).alloc (.cells #[.bool b', .slice A' n' c'] 25)) (.cells #[.bool false, .slice none 0 0] 25)))
  have kr := (Rx.new ((w.alloc (.cells #[.bool b, .slice A n c] 25)).alloc (.cells #[.bool b', .slice A' n' c'] 25)) (w.heap.size + 1 + 1) (by simp))
  go_enter Tryd.func24, Tryd.ntmps24
  go_wp2_with fail
  have h := h.drew
  have hu := hu.drew
  have ka := ka.drew
  have kb := kb.drew
  have kr := kr.drew
  have B0 := b_drew B0
  go_region_held3 (fun w' => w'.cell? ⟨w.heap.size, 0, none⟩ = some (.bool b) ∧ w'.cell? ⟨w.heap.size, 1, none⟩ = some (.slice A n c) ∧ w'.cell? ⟨w.heap.size + 1, 0, none⟩ = some (.bool b') ∧ w'.cell? ⟨w.heap.size + 1, 1, none⟩ = some (.slice A' n' c')) (first | exact ⟨ka.1, ka.2, kb.1, kb.2⟩ | exact ⟨(ka.ret (r := w.heap.size + 1 + 1) (by omega) _ _).1, (ka.ret (r := w.heap.size + 1 + 1) (by omega) _ _).2, (kb.ret (r := w.heap.size + 1 + 1) (by omega) _ _).1, (kb.ret (r := w.heap.size + 1 + 1) (by omega) _ _).2⟩)
    (first
      | (go_at_call 20; (with_reducible refine (rneg_i hu ?_).mono ?_); omega; rintro e w1 ⟨v1, rfl, z1, bb⟩; have h := h.below bb; have hu := hu.below bb; have ka := ka.below bb; have kb := kb.below bb; have kr := kr.below bb; have B0 := B0.trans (bb.mono B0.size); clear bb)
      | (go_at_call 22; (with_reducible refine (riadd_i h z1.iv hk hj).mono ?_); rintro e w2 ⟨vr, rfl, zr, bb⟩; have h := h.below bb; have ka := ka.below bb; have kb := kb.below bb; have kr := kr.below bb; have B0 := B0.trans (bb.mono B0.size); clear bb; obtain ⟨br, Ar, nr, cr, rfl, zr⟩ := zr.cells; have kr0 := kr.1; have kr1 := kr.2.1; have kr2 := kr.2.2.1; have kr3 := kr.2.2.2))
  go_wp2
  refine bodyPost_ret (v := .agg #[.bool br, .slice Ar nr cr]) (by simp [results, Tryd.results24, go_sem, kr0, kr1]) rfl ⟨_, rfl, zr.ret kr _ _, below_ret B0 (by omega) _ _⟩
theorem rof_z' {w : World} (z : Int) (n : Nat) (hz : z = (n : Int)) (hn : n < 18446744073709551616) : Calls Tryd.prog 54 #[.int .u64 z] w (NEnd n 2 w) := by
  subst hz
  exact rof_n n hn
set_option maxRecDepth 20000 in
set_option maxHeartbeats 1000000 in
theorem riof_p (n : Int) (h : 0 ≤ n) (h' : n < 9223372036854775808) (w : World) : Calls Tryd.prog 37 #[.int .i64 n] w (IEnd n 2 w) := by
  have B0 := below_a1 w (.cells #[.bool false, .slice none 0 0] 25)
  have kr := (Rx.new w (w.heap.size) (by simp))
  go_enter Tryd.func37, Tryd.ntmps37
  have kr0 := kr.1
  have kr1 := kr.2.1
  have kr2 := kr.2.2.1
  have kr3 := kr.2.2.2
  go_wp2_with fail
  refine (rof_z' _ n.natAbs ?_ ?_).mono ?_
  · first | omega | (rw [IntKind.wrap_u64]; unfold wrap64; omega) | (simp only [IntKind.wrap_u64]; omega)
  · omega
  clear kr0 kr1 kr2 kr3
  rintro e w1 ⟨v1, rfl, z1, bb⟩
  have kr := kr.below bb
  have B0 := B0.trans (bb.mono B0.size)
  clear bb
  obtain ⟨A2, n2, c2, rfl, _, _⟩ := z1.nm.form
  have zr : Iz w1 (.agg #[.bool false, .slice A2 n2 c2]) n 2 := ⟨_, _, _, _, n.natAbs, rfl, z1, by simp [sgn]; omega, fun e => by first | rfl | omega⟩
  have kr0 := kr.1
  have kr1 := kr.2.1
  have kr2 := kr.2.2.1
  have kr3 := kr.2.2.2
  go_wp2
  refine bodyPost_ret (v := .agg #[.bool false, .slice A2 n2 c2]) (by simp [results, Tryd.results37, go_sem, kr0, kr1]) rfl ⟨_, rfl, zr.ret kr _ _, below_ret B0 (by omega) _ _⟩
set_option maxRecDepth 20000 in
set_option maxHeartbeats 1000000 in
theorem riof_m (n : Int) (h : n < 0) (h' : -9223372036854775808 ≤ n) (w : World) : Calls Tryd.prog 37 #[.int .i64 n] w (IEnd n 2 w) := by
  have B0 := below_a1 w (.cells #[.bool false, .slice none 0 0] 25)
  have kr := (Rx.new w (w.heap.size) (by simp))
  go_enter Tryd.func37, Tryd.ntmps37
  have kr0 := kr.1
  have kr1 := kr.2.1
  have kr2 := kr.2.2.1
  have kr3 := kr.2.2.2
  go_wp2_with fail
  refine (rof_z' _ n.natAbs ?_ ?_).mono ?_
  · first | omega | (rw [IntKind.wrap_u64]; unfold wrap64; omega) | (simp only [IntKind.wrap_u64]; omega)
  · omega
  clear kr0 kr1 kr2 kr3
  rintro e w1 ⟨v1, rfl, z1, bb⟩
  have kr := kr.below bb
  have B0 := B0.trans (bb.mono B0.size)
  clear bb
  obtain ⟨A2, n2, c2, rfl, _, _⟩ := z1.nm.form
  have zr : Iz w1 (.agg #[.bool true, .slice A2 n2 c2]) n 2 := ⟨_, _, _, _, n.natAbs, rfl, z1, by simp [sgn]; omega, fun e => by first | rfl | omega⟩
  have kr0 := kr.1
  have kr1 := kr.2.1
  have kr2 := kr.2.2.1
  have kr3 := kr.2.2.2
  go_wp2
  refine bodyPost_ret (v := .agg #[.bool true, .slice A2 n2 c2]) (by simp [results, Tryd.results37, go_sem, kr0, kr1]) rfl ⟨_, rfl, zr.ret kr _ _, below_ret B0 (by omega) _ _⟩
theorem riof_i (n : Int) (h : -9223372036854775808 ≤ n) (h' : n < 9223372036854775808) (w : World) : Calls Tryd.prog 37 #[.int .i64 n] w (IEnd n 2 w) := by
  rcases Int.lt_or_le n 0 with h0 | h0
  · exact riof_m n h0 h w
  · exact riof_p n h0 h' w
def BoolEnd (b : Bool) (w : World) (e : Ending) (w' : World) : Prop := e = .returned (.bool b) ∧ Below w.heap.size w w'
theorem rshort_any (b : Bool) (A : Option Addr) (n c : Nat) (i : Nat) (w : World) : Calls Tryd.prog 29 #[.agg #[.bool b, .slice A n c], .int .i64 (i : Int)] w (BoolEnd (decide (n ≤ i)) w) := by
  go_enter Tryd.func29, Tryd.ntmps29
  go_wp2
  go_ret
  exact ⟨rfl, below_alloc _ _⟩
end Go.Proofs.YthcoemkbdllcfaaDoor
