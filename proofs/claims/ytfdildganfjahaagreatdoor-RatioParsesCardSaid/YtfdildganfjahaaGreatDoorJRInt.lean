import Derived.Test.YtfdildganfjahaaGreatDoorJInt
import Derived.Test.YtfdildganfjahaaGreatDoorJRef
import Derived.Deep.DeepCutAuto
import Derived.Deep.RegionWith
import Derived.Laws.BitsAllLaws
import Derived.Test.YtfdildganfjahaaGreatDoorJText
import Derived.Test.YtfdildganfjahaaGreatDoorShelf
/-
  The walks of garmentref02.make1, Norm, Neg, Add, Sub, Mul, Of and Short.
-/
namespace Go.Proofs.YtfdildganfjahaaGreatDoor
open Go.RowKit
attribute [local go_sem ↓] Go.wp_at_zero Go.wp_at_succ
set_option linter.unusedVariables false

theorem sgn_len {w : World} {A : Option Addr} {n c m k : Nat} (h : Nz w (.slice A n c) m k) : Iz w (.agg #[.bool (decide (0 < n)), .slice A n c]) (sgn true m) k := by
  have := Iz.mk true h _ rfl
  simpa using this
set_option maxRecDepth 20000 in
set_option maxHeartbeats 1000000 in
theorem make1_false {w : World} {v : Value} {m k : Nat} (hm : Nm w v m k) (hk : k ≤ 900) : Calls Tryz.prog 87 #[.bool false, v] w (IEnd (sgn false m) k w) := by
  have B0 := below_a1 w (.cells #[.bool false, .slice none 0 0] 25)
  have hm := hm.below B0
  have kr := (Rx.new w (w.heap.size) (by simp))
  go_enter Tryz.func87, Tryz.ntmps87
  have kr0 := kr.1
  have kr1 := kr.2.1
  have kr2 := kr.2.2.1
  have kr3 := kr.2.2.2
  go_wp2_with fail
  refine (rnorm_n hm (by omega)).mono ?_
  clear kr0 kr1 kr2 kr3
  rintro e w1 ⟨v1, rfl, z1, bb⟩
  have hm := hm.below bb
  have kr := kr.below bb
  have B0 := B0.trans (bb.mono B0.size)
  clear bb
  have z1 := z1.nz
  obtain ⟨A2, n2, c2, rfl, _, _⟩ := z1.nm.form
  have zr := Iz.mk false z1 _ rfl
  simp only [Bool.false_and] at zr
  have kr0 := kr.1
  have kr1 := kr.2.1
  have kr2 := kr.2.2.1
  have kr3 := kr.2.2.2
  go_wp2
  refine bodyPost_ret (v := .agg #[.bool false, .slice A2 n2 c2]) (by simp [results, Tryz.results87, go_sem, kr0, kr1]) rfl ⟨_, rfl, zr.ret kr _ _, below_ret B0 (by omega) _ _⟩
set_option maxRecDepth 20000 in
set_option maxHeartbeats 1000000 in
theorem make1_true {w : World} {v : Value} {m k : Nat} (hm : Nm w v m k) (hk : k ≤ 900) : Calls Tryz.prog 87 #[.bool true, v] w (IEnd (sgn true m) k w) := by
  have B0 := below_a1 w (.cells #[.bool false, .slice none 0 0] 25)
  have hm := hm.below B0
  have kr := (Rx.new w (w.heap.size) (by simp))
  go_enter Tryz.func87, Tryz.ntmps87
  have kr0 := kr.1
  have kr1 := kr.2.1
  have kr2 := kr.2.2.1
  have kr3 := kr.2.2.2
  go_wp2_with fail
  refine (rnorm_n hm (by omega)).mono ?_
  clear kr0 kr1 kr2 kr3
  rintro e w1 ⟨v1, rfl, z1, bb⟩
  have hm := hm.below bb
  have kr := kr.below bb
  have B0 := B0.trans (bb.mono B0.size)
  clear bb
  have z1 := z1.nz
  obtain ⟨A2, n2, c2, rfl, _, _⟩ := z1.nm.form
  have zr := sgn_len z1
  have kr0 := kr.1
  have kr1 := kr.2.1
  have kr2 := kr.2.2.1
  have kr3 := kr.2.2.2
  go_wp2
  refine bodyPost_ret (v := .agg #[.bool (decide (0 < n2)), .slice A2 n2 c2]) (by simp [results, Tryz.results87, go_sem, kr0, kr1]) rfl ⟨_, rfl, zr.ret kr _ _, below_ret B0 (by omega) _ _⟩
theorem make1_i {w : World} {v : Value} {m k : Nat} (b : Bool) (hm : Nm w v m k) (hk : k ≤ 900) (z : Int) (hz : z = sgn b m) : Calls Tryz.prog 87 #[.bool b, v] w (IEnd z k w) := by
  subst hz
  cases b
  · exact make1_false hm hk
  · exact make1_true hm hk
set_option maxRecDepth 20000 in
set_option maxHeartbeats 1000000 in
theorem rnorm_i {w : World} {v : Value} {z : Int} {k : Nat} (h : Iv w v z k) (hk : k ≤ 900) : Calls Tryz.prog 65 #[v] w (IEnd (z) k w) := by
  obtain ⟨b, A, n, c, m, rfl, hm, hz⟩ := h
  have HZ : Hid (z = sgn b m) := by show _ = _; rw [hz]
  clear hz
  have B0 := below_a2 w (.cells #[.bool b, .slice A n c] 25) (.cells #[.bool false, .slice none 0 0] 25)
  have hm := hm.below B0
  have ka := ((Bx.new w (w.heap.size) (by simp) (.bool b) (.slice A n c)).below (below_alloc (w.alloc (.cells #[.bool b, .slice A n c] 25)) (.cells #[.bool false, .slice none 0 0] 25)))
  have kr := (Rx.new (w.alloc (.cells #[.bool b, .slice A n c] 25)) (w.heap.size + 1) (by simp))
  go_enter Tryz.func65, Tryz.ntmps65
  have ka0 := ka.1
  have ka1 := ka.2
  have kr0 := kr.1
  have kr1 := kr.2.1
  have kr2 := kr.2.2.1
  have kr3 := kr.2.2.2
  go_wp2_with fail
  refine (make1_i b hm (by omega) _ HZ.out).mono ?_
  clear ka0 ka1 kr0 kr1 kr2 kr3
  rintro e w1 ⟨vr, rfl, zr, bb⟩
  have hm := hm.below bb
  have ka := ka.below bb
  have kr := kr.below bb
  have B0 := B0.trans (bb.mono B0.size)
  clear bb
  obtain ⟨br, Ar, nr, cr, rfl, zr⟩ := zr.cells
  have ka0 := ka.1
  have ka1 := ka.2
  have kr0 := kr.1
  have kr1 := kr.2.1
  have kr2 := kr.2.2.1
  have kr3 := kr.2.2.2
  go_wp2
  refine bodyPost_ret (v := .agg #[.bool br, .slice Ar nr cr]) (by simp [results, Tryz.results65, go_sem, kr0, kr1]) rfl ⟨_, rfl, zr.ret kr _ _, below_ret B0 (by omega) _ _⟩
set_option maxRecDepth 20000 in
set_option maxHeartbeats 1000000 in
theorem rneg_i {w : World} {v : Value} {z : Int} {k : Nat} (h : Iv w v z k) (hk : k ≤ 900) : Calls Tryz.prog 50 #[v] w (IEnd (-z) k w) := by
  obtain ⟨b, A, n, c, m, rfl, hm, hz⟩ := h
  have HZ : Hid (-z = sgn (!b) m) := by show _ = _; rw [hz]; exact (sgn_not b m).symm
  clear hz
  have B0 := below_a2 w (.cells #[.bool b, .slice A n c] 25) (.cells #[.bool false, .slice none 0 0] 25)
  have hm := hm.below B0
  have ka := ((Bx.new w (w.heap.size) (by simp) (.bool b) (.slice A n c)).below (below_alloc (w.alloc (.cells #[.bool b, .slice A n c] 25)) (.cells #[.bool false, .slice none 0 0] 25)))
  have kr := (Rx.new (w.alloc (.cells #[.bool b, .slice A n c] 25)) (w.heap.size + 1) (by simp))
  go_enter Tryz.func50, Tryz.ntmps50
  have ka0 := ka.1
  have ka1 := ka.2
  have kr0 := kr.1
  have kr1 := kr.2.1
  have kr2 := kr.2.2.1
  have kr3 := kr.2.2.2
  go_wp2_with fail
  refine (make1_i (!b) hm (by omega) _ HZ.out).mono ?_
  clear ka0 ka1 kr0 kr1 kr2 kr3
  rintro e w1 ⟨vr, rfl, zr, bb⟩
  have hm := hm.below bb
  have ka := ka.below bb
  have kr := kr.below bb
  have B0 := B0.trans (bb.mono B0.size)
  clear bb
  obtain ⟨br, Ar, nr, cr, rfl, zr⟩ := zr.cells
  have ka0 := ka.1
  have ka1 := ka.2
  have kr0 := kr.1
  have kr1 := kr.2.1
  have kr2 := kr.2.2.1
  have kr3 := kr.2.2.2
  go_wp2
  refine bodyPost_ret (v := .agg #[.bool br, .slice Ar nr cr]) (by simp [results, Tryz.results50, go_sem, kr0, kr1]) rfl ⟨_, rfl, zr.ret kr _ _, below_ret B0 (by omega) _ _⟩
set_option maxRecDepth 20000 in
set_option maxHeartbeats 1000000 in
theorem rimul_i {w : World} {v u : Value} {z y : Int} {k j : Nat} (h : Iv w v z k) (hu : Iv w u y j) (hk : k ≤ 400) (hj : j ≤ 400) : Calls Tryz.prog 45 #[v, u] w (IEnd (z * y) (k + j) w) := by
  obtain ⟨b, A, n, c, m, rfl, hm, hz⟩ := h
  obtain ⟨b', A', n', c', m', rfl, hm', hy⟩ := hu
  have HZ : Hid (z * y = sgn (!(b == b')) (m * m')) := by show _ = _; rw [hz, hy]; exact (sgn_mul b b' m m').symm
  clear hz hy
  have B0 := below_a3 w (.cells #[.bool b, .slice A n c] 25) (.cells #[.bool b', .slice A' n' c'] 25) (.cells #[.bool false, .slice none 0 0] 25)
  have hm := hm.below B0
  have hm' := hm'.below B0
  have ka := (((Bx.new w (w.heap.size) (by simp) (.bool b) (.slice A n c)).below (below_alloc (w.alloc (.cells #[.bool b, .slice A n c] 25)) (.cells #[.bool b', .slice A' n' c'] 25))).below (below_alloc ((w.alloc (.cells #[.bool b, .slice A n c] 25)).alloc (.cells #[.bool b', .slice A' n' c'] 25)) (.cells #[.bool false, .slice none 0 0] 25)))
  have kb := ((Bx.new (w.alloc (.cells #[.bool b, .slice A n c] 25)) (w.heap.size + 1) (by simp) (.bool b') (.slice A' n' c')).below (below_alloc ((w.alloc (.cells #[.bool b, .slice A n c] 25)).alloc (.cells #[.bool b', .slice A' n' c'] 25)) (.cells #[.bool false, .slice none 0 0] 25)))
  have kr := (Rx.new ((w.alloc (.cells #[.bool b, .slice A n c] 25)).alloc (.cells #[.bool b', .slice A' n' c'] 25)) (w.heap.size + 1 + 1) (by simp))
  go_enter Tryz.func45, Tryz.ntmps45
  go_wp2_with fail
  have hm := hm.drew
  have hm' := hm'.drew
  have ka := ka.drew
  have kb := kb.drew
  have kr := kr.drew
  have B0 := b_drew B0
  go_region_held3 (fun w' => w'.cell? ⟨w.heap.size, 0, none⟩ = some (.bool b) ∧ w'.cell? ⟨w.heap.size, 1, none⟩ = some (.slice A n c) ∧ w'.cell? ⟨w.heap.size + 1, 0, none⟩ = some (.bool b') ∧ w'.cell? ⟨w.heap.size + 1, 1, none⟩ = some (.slice A' n' c')) (first | exact ⟨ka.1, ka.2, kb.1, kb.2⟩ | exact ⟨(ka.ret (r := w.heap.size + 1 + 1) (by omega) _ _).1, (ka.ret (r := w.heap.size + 1 + 1) (by omega) _ _).2, (kb.ret (r := w.heap.size + 1 + 1) (by omega) _ _).1, (kb.ret (r := w.heap.size + 1 + 1) (by omega) _ _).2⟩)
    (first
      | (go_at_call 41; (with_reducible refine (rmul_n hm hm' ?_ ?_).mono ?_); omega; omega; rintro e w1 ⟨v1, rfl, z1, bb⟩; have hm := hm.below bb; have hm' := hm'.below bb; have ka := ka.below bb; have kb := kb.below bb; have kr := kr.below bb; have B0 := B0.trans (bb.mono B0.size); clear bb)
      | (go_at_call 87; (with_reducible refine (make1_i (!(b == b')) z1.nz.nm ?_ _ HZ.out).mono ?_); omega; rintro e w2 ⟨vr, rfl, zr, bb⟩; have ka := ka.below bb; have kb := kb.below bb; have kr := kr.below bb; have B0 := B0.trans (bb.mono B0.size); clear bb; obtain ⟨br, Ar, nr, cr, rfl, zr⟩ := zr.cells; have kr0 := kr.1; have kr1 := kr.2.1; have kr2 := kr.2.2.1; have kr3 := kr.2.2.2))
  go_wp2
  refine bodyPost_ret (v := .agg #[.bool br, .slice Ar nr cr]) (by simp [results, Tryz.results45, go_sem, kr0, kr1]) rfl ⟨_, rfl, zr.ret kr _ _, below_ret B0 (by omega) _ _⟩
set_option maxRecDepth 20000 in
set_option maxHeartbeats 1000000 in
theorem riadd_same (b : Bool) {A A' : Option Addr} {n n' c c' m m' k j : Nat} {w : World} (hm : Nm w (.slice A n c) m k) (hm' : Nm w (.slice A' n' c') m' j) (hk : k ≤ 400) (hj : j ≤ 400) : Calls Tryz.prog 53 #[.agg #[.bool b, .slice A n c], .agg #[.bool b, .slice A' n' c']] w (IEnd (sgn b (m + m')) (max k j + 1) w) := by
  cases b
  · have B0 := below_a3 w (.cells #[.bool false, .slice A n c] 25) (.cells #[.bool false, .slice A' n' c'] 25) (.cells #[.bool false, .slice none 0 0] 25)
    have hm := hm.below B0
    have hm' := hm'.below B0
    have ka := (((Bx.new w (w.heap.size) (by simp) (.bool false) (.slice A n c)).below (below_alloc (w.alloc (.cells #[.bool false, .slice A n c] 25)) (.cells #[.bool false, .slice A' n' c'] 25))).below (below_alloc ((w.alloc (.cells #[.bool false, .slice A n c] 25)).alloc (.cells #[.bool false, .slice A' n' c'] 25)) (.cells #[.bool false, .slice none 0 0] 25)))
    have kb := ((Bx.new (w.alloc (.cells #[.bool false, .slice A n c] 25)) (w.heap.size + 1) (by simp) (.bool false) (.slice A' n' c')).below (below_alloc ((w.alloc (.cells #[.bool false, .slice A n c] 25)).alloc (.cells #[.bool false, .slice A' n' c'] 25)) (.cells #[.bool false, .slice none 0 0] 25)))
    have kr := (Rx.new ((w.alloc (.cells #[.bool false, .slice A n c] 25)).alloc (.cells #[.bool false, .slice A' n' c'] 25)) (w.heap.size + 1 + 1) (by simp))
    go_enter Tryz.func53, Tryz.ntmps53
    go_wp2_with fail
    have hm := hm.drew
    have hm' := hm'.drew
    have ka := ka.drew
    have kb := kb.drew
    have kr := kr.drew
    have B0 := b_drew B0
    go_region_held3 (fun w' => w'.cell? ⟨w.heap.size, 0, none⟩ = some (.bool false) ∧ w'.cell? ⟨w.heap.size, 1, none⟩ = some (.slice A n c) ∧ w'.cell? ⟨w.heap.size + 1, 0, none⟩ = some (.bool false) ∧ w'.cell? ⟨w.heap.size + 1, 1, none⟩ = some (.slice A' n' c')) (first | exact ⟨ka.1, ka.2, kb.1, kb.2⟩ | exact ⟨(ka.ret (r := w.heap.size + 1 + 1) (by omega) _ _).1, (ka.ret (r := w.heap.size + 1 + 1) (by omega) _ _).2, (kb.ret (r := w.heap.size + 1 + 1) (by omega) _ _).1, (kb.ret (r := w.heap.size + 1 + 1) (by omega) _ _).2⟩)
      (first
        | (go_at_call 64; (with_reducible refine (radd_n hm hm' ?_ ?_).mono ?_); omega; omega; rintro e w1 ⟨v1, rfl, z1, bb⟩; have hm := hm.below bb; have hm' := hm'.below bb; have ka := ka.below bb; have kb := kb.below bb; have kr := kr.below bb; have B0 := B0.trans (bb.mono B0.size); clear bb)
        | (go_at_call 87; (with_reducible refine (make1_i false z1.nz.nm ?_ _ rfl).mono ?_); omega; rintro e w2 ⟨vr, rfl, zr, bb⟩; have ka := ka.below bb; have kb := kb.below bb; have kr := kr.below bb; have B0 := B0.trans (bb.mono B0.size); clear bb; obtain ⟨br, Ar, nr, cr, rfl, zr⟩ := zr.cells; have kr0 := kr.1; have kr1 := kr.2.1; have kr2 := kr.2.2.1; have kr3 := kr.2.2.2))
    go_wp2
    refine bodyPost_ret (v := .agg #[.bool br, .slice Ar nr cr]) (by simp [results, Tryz.results53, go_sem, kr0, kr1]) rfl ⟨_, rfl, zr.ret kr _ _, below_ret B0 (by omega) _ _⟩
  · have B0 := below_a3 w (.cells #[.bool true, .slice A n c] 25) (.cells #[.bool true, .slice A' n' c'] 25) (.cells #[.bool false, .slice none 0 0] 25)
    have hm := hm.below B0
    have hm' := hm'.below B0
    have ka := (((Bx.new w (w.heap.size) (by simp) (.bool true) (.slice A n c)).below (below_alloc (w.alloc (.cells #[.bool true, .slice A n c] 25)) (.cells #[.bool true, .slice A' n' c'] 25))).below (below_alloc ((w.alloc (.cells #[.bool true, .slice A n c] 25)).alloc (.cells #[.bool true, .slice A' n' c'] 25)) (.cells #[.bool false, .slice none 0 0] 25)))
    have kb := ((Bx.new (w.alloc (.cells #[.bool true, .slice A n c] 25)) (w.heap.size + 1) (by simp) (.bool true) (.slice A' n' c')).below (below_alloc ((w.alloc (.cells #[.bool true, .slice A n c] 25)).alloc (.cells #[.bool true, .slice A' n' c'] 25)) (.cells #[.bool false, .slice none 0 0] 25)))
    have kr := (Rx.new ((w.alloc (.cells #[.bool true, .slice A n c] 25)).alloc (.cells #[.bool true, .slice A' n' c'] 25)) (w.heap.size + 1 + 1) (by simp))
    go_enter Tryz.func53, Tryz.ntmps53
    go_wp2_with fail
    have hm := hm.drew
    have hm' := hm'.drew
    have ka := ka.drew
    have kb := kb.drew
    have kr := kr.drew
    have B0 := b_drew B0
    go_region_held3 (fun w' => w'.cell? ⟨w.heap.size, 0, none⟩ = some (.bool true) ∧ w'.cell? ⟨w.heap.size, 1, none⟩ = some (.slice A n c) ∧ w'.cell? ⟨w.heap.size + 1, 0, none⟩ = some (.bool true) ∧ w'.cell? ⟨w.heap.size + 1, 1, none⟩ = some (.slice A' n' c')) (first | exact ⟨ka.1, ka.2, kb.1, kb.2⟩ | exact ⟨(ka.ret (r := w.heap.size + 1 + 1) (by omega) _ _).1, (ka.ret (r := w.heap.size + 1 + 1) (by omega) _ _).2, (kb.ret (r := w.heap.size + 1 + 1) (by omega) _ _).1, (kb.ret (r := w.heap.size + 1 + 1) (by omega) _ _).2⟩)
      (first
        | (go_at_call 64; (with_reducible refine (radd_n hm hm' ?_ ?_).mono ?_); omega; omega; rintro e w1 ⟨v1, rfl, z1, bb⟩; have hm := hm.below bb; have hm' := hm'.below bb; have ka := ka.below bb; have kb := kb.below bb; have kr := kr.below bb; have B0 := B0.trans (bb.mono B0.size); clear bb)
        | (go_at_call 87; (with_reducible refine (make1_i true z1.nz.nm ?_ _ rfl).mono ?_); omega; rintro e w2 ⟨vr, rfl, zr, bb⟩; have ka := ka.below bb; have kb := kb.below bb; have kr := kr.below bb; have B0 := B0.trans (bb.mono B0.size); clear bb; obtain ⟨br, Ar, nr, cr, rfl, zr⟩ := zr.cells; have kr0 := kr.1; have kr1 := kr.2.1; have kr2 := kr.2.2.1; have kr3 := kr.2.2.2))
    go_wp2
    refine bodyPost_ret (v := .agg #[.bool br, .slice Ar nr cr]) (by simp [results, Tryz.results53, go_sem, kr0, kr1]) rfl ⟨_, rfl, zr.ret kr _ _, below_ret B0 (by omega) _ _⟩
set_option maxRecDepth 20000 in
set_option maxHeartbeats 1000000 in
theorem riadd_ge (b : Bool) {A A' : Option Addr} {n n' c c' m m' k j : Nat} {w : World} (hm : Nm w (.slice A n c) m k) (hm' : Nm w (.slice A' n' c') m' j) (hk : k ≤ 400) (hj : j ≤ 400) (h : m' ≤ m) : Calls Tryz.prog 53 #[.agg #[.bool b, .slice A n c], .agg #[.bool (!b), .slice A' n' c']] w (IEnd (sgn b m + sgn (!b) m') (max k j + 1) w) := by
  have H := Lib.hid h
  clear h
  cases b
  · have B0 := below_a3 w (.cells #[.bool false, .slice A n c] 25) (.cells #[.bool true, .slice A' n' c'] 25) (.cells #[.bool false, .slice none 0 0] 25)
    have hm := hm.below B0
    have hm' := hm'.below B0
    have ka := (((Bx.new w (w.heap.size) (by simp) (.bool false) (.slice A n c)).below (below_alloc (w.alloc (.cells #[.bool false, .slice A n c] 25)) (.cells #[.bool true, .slice A' n' c'] 25))).below (below_alloc ((w.alloc (.cells #[.bool false, .slice A n c] 25)).alloc (.cells #[.bool true, .slice A' n' c'] 25)) (.cells #[.bool false, .slice none 0 0] 25)))
    have kb := ((Bx.new (w.alloc (.cells #[.bool false, .slice A n c] 25)) (w.heap.size + 1) (by simp) (.bool true) (.slice A' n' c')).below (below_alloc ((w.alloc (.cells #[.bool false, .slice A n c] 25)).alloc (.cells #[.bool true, .slice A' n' c'] 25)) (.cells #[.bool false, .slice none 0 0] 25)))
    have kr := (Rx.new ((w.alloc (.cells #[.bool false, .slice A n c] 25)).alloc (.cells #[.bool true, .slice A' n' c'] 25)) (w.heap.size + 1 + 1) (by simp))
    go_enter Tryz.func53, Tryz.ntmps53
    have ka0 := ka.1
    have ka1 := ka.2
    have kb0 := kb.1
    have kb1 := kb.2
    have kr0 := kr.1
    have kr1 := kr.2.1
    have kr2 := kr.2.2.1
    have kr3 := kr.2.2.2
    go_wp2_with fail
    refine (rsub_n hm hm' (by omega) (by omega) H.out).mono ?_
    clear ka0 ka1 kb0 kb1 kr0 kr1 kr2 kr3
    rintro e w1 ⟨v1, rfl, z1, bb⟩
    have hm := hm.below bb
    have hm' := hm'.below bb
    have ka := ka.below bb
    have kb := kb.below bb
    have kr := kr.below bb
    have B0 := B0.trans (bb.mono B0.size)
    clear bb
    have ka0 := ka.1
    have ka1 := ka.2
    have kb0 := kb.1
    have kb1 := kb.2
    have kr0 := kr.1
    have kr1 := kr.2.1
    have kr2 := kr.2.2.1
    have kr3 := kr.2.2.2
    go_wp2_with fail
    refine (make1_i false (z1.nz.wide' (k' := max k j + 1) (by omega)).nm (by omega) _ (sgn_ge false m m' H.out).symm).mono ?_
    clear ka0 ka1 kb0 kb1 kr0 kr1 kr2 kr3
    rintro e w2 ⟨vr, rfl, zr, bb⟩
    have ka := ka.below bb
    have kb := kb.below bb
    have kr := kr.below bb
    have B0 := B0.trans (bb.mono B0.size)
    clear bb
    obtain ⟨br, Ar, nr, cr, rfl, zr⟩ := zr.cells
    have ka0 := ka.1
    have ka1 := ka.2
    have kb0 := kb.1
    have kb1 := kb.2
    have kr0 := kr.1
    have kr1 := kr.2.1
    have kr2 := kr.2.2.1
    have kr3 := kr.2.2.2
    go_wp2
    refine bodyPost_ret (v := .agg #[.bool br, .slice Ar nr cr]) (by simp [results, Tryz.results53, go_sem, kr0, kr1]) rfl ⟨_, rfl, zr.ret kr _ _, below_ret B0 (by omega) _ _⟩
  · have B0 := below_a3 w (.cells #[.bool true, .slice A n c] 25) (.cells #[.bool false, .slice A' n' c'] 25) (.cells #[.bool false, .slice none 0 0] 25)
    have hm := hm.below B0
    have hm' := hm'.below B0
    have ka := (((Bx.new w (w.heap.size) (by simp) (.bool true) (.slice A n c)).below (below_alloc (w.alloc (.cells #[.bool true, .slice A n c] 25)) (.cells #[.bool false, .slice A' n' c'] 25))).below (below_alloc ((w.alloc (.cells #[.bool true, .slice A n c] 25)).alloc (.cells #[.bool false, .slice A' n' c'] 25)) (.cells #[.bool false, .slice none 0 0] 25)))
    have kb := ((Bx.new (w.alloc (.cells #[.bool true, .slice A n c] 25)) (w.heap.size + 1) (by simp) (.bool false) (.slice A' n' c')).below (below_alloc ((w.alloc (.cells #[.bool true, .slice A n c] 25)).alloc (.cells #[.bool false, .slice A' n' c'] 25)) (.cells #[.bool false, .slice none 0 0] 25)))
    have kr := (Rx.new ((w.alloc (.cells #[.bool true, .slice A n c] 25)).alloc (.cells #[.bool false, .slice A' n' c'] 25)) (w.heap.size + 1 + 1) (by simp))
    go_enter Tryz.func53, Tryz.ntmps53
    have ka0 := ka.1
    have ka1 := ka.2
    have kb0 := kb.1
    have kb1 := kb.2
    have kr0 := kr.1
    have kr1 := kr.2.1
    have kr2 := kr.2.2.1
    have kr3 := kr.2.2.2
    go_wp2_with fail
    refine (rsub_n hm hm' (by omega) (by omega) H.out).mono ?_
    clear ka0 ka1 kb0 kb1 kr0 kr1 kr2 kr3
    rintro e w1 ⟨v1, rfl, z1, bb⟩
    have hm := hm.below bb
    have hm' := hm'.below bb
    have ka := ka.below bb
    have kb := kb.below bb
    have kr := kr.below bb
    have B0 := B0.trans (bb.mono B0.size)
    clear bb
    have ka0 := ka.1
    have ka1 := ka.2
    have kb0 := kb.1
    have kb1 := kb.2
    have kr0 := kr.1
    have kr1 := kr.2.1
    have kr2 := kr.2.2.1
    have kr3 := kr.2.2.2
    go_wp2_with fail
    refine (make1_i true (z1.nz.wide' (k' := max k j + 1) (by omega)).nm (by omega) _ (sgn_ge true m m' H.out).symm).mono ?_
    clear ka0 ka1 kb0 kb1 kr0 kr1 kr2 kr3
    rintro e w2 ⟨vr, rfl, zr, bb⟩
    have ka := ka.below bb
    have kb := kb.below bb
    have kr := kr.below bb
    have B0 := B0.trans (bb.mono B0.size)
    clear bb
    obtain ⟨br, Ar, nr, cr, rfl, zr⟩ := zr.cells
    have ka0 := ka.1
    have ka1 := ka.2
    have kb0 := kb.1
    have kb1 := kb.2
    have kr0 := kr.1
    have kr1 := kr.2.1
    have kr2 := kr.2.2.1
    have kr3 := kr.2.2.2
    go_wp2
    refine bodyPost_ret (v := .agg #[.bool br, .slice Ar nr cr]) (by simp [results, Tryz.results53, go_sem, kr0, kr1]) rfl ⟨_, rfl, zr.ret kr _ _, below_ret B0 (by omega) _ _⟩
set_option maxRecDepth 20000 in
set_option maxHeartbeats 1000000 in
theorem riadd_lt (b : Bool) {A A' : Option Addr} {n n' c c' m m' k j : Nat} {w : World} (hm : Nm w (.slice A n c) m k) (hm' : Nm w (.slice A' n' c') m' j) (hk : k ≤ 400) (hj : j ≤ 400) (h : m < m') : Calls Tryz.prog 53 #[.agg #[.bool b, .slice A n c], .agg #[.bool (!b), .slice A' n' c']] w (IEnd (sgn b m + sgn (!b) m') (max k j + 1) w) := by
  have H := Lib.hid h
  clear h
  cases b
  · have B0 := below_a3 w (.cells #[.bool false, .slice A n c] 25) (.cells #[.bool true, .slice A' n' c'] 25) (.cells #[.bool false, .slice none 0 0] 25)
    have hm := hm.below B0
    have hm' := hm'.below B0
    have ka := (((Bx.new w (w.heap.size) (by simp) (.bool false) (.slice A n c)).below (below_alloc (w.alloc (.cells #[.bool false, .slice A n c] 25)) (.cells #[.bool true, .slice A' n' c'] 25))).below (below_alloc ((w.alloc (.cells #[.bool false, .slice A n c] 25)).alloc (.cells #[.bool true, .slice A' n' c'] 25)) (.cells #[.bool false, .slice none 0 0] 25)))
    have kb := ((Bx.new (w.alloc (.cells #[.bool false, .slice A n c] 25)) (w.heap.size + 1) (by simp) (.bool true) (.slice A' n' c')).below (below_alloc ((w.alloc (.cells #[.bool false, .slice A n c] 25)).alloc (.cells #[.bool true, .slice A' n' c'] 25)) (.cells #[.bool false, .slice none 0 0] 25)))
    have kr := (Rx.new ((w.alloc (.cells #[.bool false, .slice A n c] 25)).alloc (.cells #[.bool true, .slice A' n' c'] 25)) (w.heap.size + 1 + 1) (by simp))
    go_enter Tryz.func53, Tryz.ntmps53
    have ka0 := ka.1
    have ka1 := ka.2
    have kb0 := kb.1
    have kb1 := kb.2
    have kr0 := kr.1
    have kr1 := kr.2.1
    have kr2 := kr.2.2.1
    have kr3 := kr.2.2.2
    go_wp2_with fail
    refine (rsub_n0 hm hm' (by omega) (by omega) H.out).mono ?_
    clear ka0 ka1 kb0 kb1 kr0 kr1 kr2 kr3
    rintro e w1 ⟨rfl, bb⟩
    have hm := hm.below bb
    have hm' := hm'.below bb
    have ka := ka.below bb
    have kb := kb.below bb
    have kr := kr.below bb
    have B0 := B0.trans (bb.mono B0.size)
    clear bb
    have ka0 := ka.1
    have ka1 := ka.2
    have kb0 := kb.1
    have kb1 := kb.2
    have kr0 := kr.1
    have kr1 := kr.2.1
    have kr2 := kr.2.2.1
    have kr3 := kr.2.2.2
    go_wp2_with fail
    refine (rsub_n hm' hm (by omega) (by omega) (Nat.le_of_lt H.out)).mono ?_
    clear ka0 ka1 kb0 kb1 kr0 kr1 kr2 kr3
    rintro e w2 ⟨v1, rfl, z1, bb⟩
    have hm := hm.below bb
    have hm' := hm'.below bb
    have ka := ka.below bb
    have kb := kb.below bb
    have kr := kr.below bb
    have B0 := B0.trans (bb.mono B0.size)
    clear bb
    have ka0 := ka.1
    have ka1 := ka.2
    have kb0 := kb.1
    have kb1 := kb.2
    have kr0 := kr.1
    have kr1 := kr.2.1
    have kr2 := kr.2.2.1
    have kr3 := kr.2.2.2
    go_wp2_with fail
    refine (make1_i true (z1.nz.wide' (k' := max k j + 1) (by omega)).nm (by omega) _ (sgn_lt false m m' H.out).symm).mono ?_
    clear ka0 ka1 kb0 kb1 kr0 kr1 kr2 kr3
    rintro e w3 ⟨vr, rfl, zr, bb⟩
    have ka := ka.below bb
    have kb := kb.below bb
    have kr := kr.below bb
    have B0 := B0.trans (bb.mono B0.size)
    clear bb
    obtain ⟨br, Ar, nr, cr, rfl, zr⟩ := zr.cells
    have ka0 := ka.1
    have ka1 := ka.2
    have kb0 := kb.1
    have kb1 := kb.2
    have kr0 := kr.1
    have kr1 := kr.2.1
    have kr2 := kr.2.2.1
    have kr3 := kr.2.2.2
    go_wp2
    refine bodyPost_ret (v := .agg #[.bool br, .slice Ar nr cr]) (by simp [results, Tryz.results53, go_sem, kr0, kr1]) rfl ⟨_, rfl, zr.ret kr _ _, below_ret B0 (by omega) _ _⟩
  · have B0 := below_a3 w (.cells #[.bool true, .slice A n c] 25) (.cells #[.bool false, .slice A' n' c'] 25) (.cells #[.bool false, .slice none 0 0] 25)
    have hm := hm.below B0
    have hm' := hm'.below B0
    have ka := (((Bx.new w (w.heap.size) (by simp) (.bool true) (.slice A n c)).below (below_alloc (w.alloc (.cells #[.bool true, .slice A n c] 25)) (.cells #[.bool false, .slice A' n' c'] 25))).below (below_alloc ((w.alloc (.cells #[.bool true, .slice A n c] 25)).alloc (.cells #[.bool false, .slice A' n' c'] 25)) (.cells #[.bool false, .slice none 0 0] 25)))
    have kb := ((Bx.new (w.alloc (.cells #[.bool true, .slice A n c] 25)) (w.heap.size + 1) (by simp) (.bool false) (.slice A' n' c')).below (below_alloc ((w.alloc (.cells #[.bool true, .slice A n c] 25)).alloc (.cells #[.bool false, .slice A' n' c'] 25)) (.cells #[.bool false, .slice none 0 0] 25)))
    have kr := (Rx.new ((w.alloc (.cells #[.bool true, .slice A n c] 25)).alloc (.cells #[.bool false, .slice A' n' c'] 25)) (w.heap.size + 1 + 1) (by simp))
    go_enter Tryz.func53, Tryz.ntmps53
    have ka0 := ka.1
    have ka1 := ka.2
    have kb0 := kb.1
    have kb1 := kb.2
    have kr0 := kr.1
    have kr1 := kr.2.1
    have kr2 := kr.2.2.1
    have kr3 := kr.2.2.2
    go_wp2_with fail
    refine (rsub_n0 hm hm' (by omega) (by omega) H.out).mono ?_
    clear ka0 ka1 kb0 kb1 kr0 kr1 kr2 kr3
    rintro e w1 ⟨rfl, bb⟩
    have hm := hm.below bb
    have hm' := hm'.below bb
    have ka := ka.below bb
    have kb := kb.below bb
    have kr := kr.below bb
    have B0 := B0.trans (bb.mono B0.size)
    clear bb
    have ka0 := ka.1
    have ka1 := ka.2
    have kb0 := kb.1
    have kb1 := kb.2
    have kr0 := kr.1
    have kr1 := kr.2.1
    have kr2 := kr.2.2.1
    have kr3 := kr.2.2.2
    go_wp2_with fail
    refine (rsub_n hm' hm (by omega) (by omega) (Nat.le_of_lt H.out)).mono ?_
    clear ka0 ka1 kb0 kb1 kr0 kr1 kr2 kr3
    rintro e w2 ⟨v1, rfl, z1, bb⟩
    have hm := hm.below bb
    have hm' := hm'.below bb
    have ka := ka.below bb
    have kb := kb.below bb
    have kr := kr.below bb
    have B0 := B0.trans (bb.mono B0.size)
    clear bb
    have ka0 := ka.1
    have ka1 := ka.2
    have kb0 := kb.1
    have kb1 := kb.2
    have kr0 := kr.1
    have kr1 := kr.2.1
    have kr2 := kr.2.2.1
    have kr3 := kr.2.2.2
    go_wp2_with fail
    refine (make1_i false (z1.nz.wide' (k' := max k j + 1) (by omega)).nm (by omega) _ (sgn_lt true m m' H.out).symm).mono ?_
    clear ka0 ka1 kb0 kb1 kr0 kr1 kr2 kr3
    rintro e w3 ⟨vr, rfl, zr, bb⟩
    have ka := ka.below bb
    have kb := kb.below bb
    have kr := kr.below bb
    have B0 := B0.trans (bb.mono B0.size)
    clear bb
    obtain ⟨br, Ar, nr, cr, rfl, zr⟩ := zr.cells
    have ka0 := ka.1
    have ka1 := ka.2
    have kb0 := kb.1
    have kb1 := kb.2
    have kr0 := kr.1
    have kr1 := kr.2.1
    have kr2 := kr.2.2.1
    have kr3 := kr.2.2.2
    go_wp2
    refine bodyPost_ret (v := .agg #[.bool br, .slice Ar nr cr]) (by simp [results, Tryz.results53, go_sem, kr0, kr1]) rfl ⟨_, rfl, zr.ret kr _ _, below_ret B0 (by omega) _ _⟩
theorem riadd_i {w : World} {v u : Value} {z y : Int} {k j : Nat} (h : Iv w v z k) (hu : Iv w u y j) (hk : k ≤ 400) (hj : j ≤ 400) : Calls Tryz.prog 53 #[v, u] w (IEnd (z + y) (max k j + 1) w) := by
  obtain ⟨b, A, n, c, m, rfl, hm, rfl⟩ := h
  obtain ⟨b', A', n', c', m', rfl, hm', rfl⟩ := hu
  by_cases e : b' = b
  · subst e
    rw [← sgn_add]
    exact riadd_same b' hm hm' hk hj
  · obtain rfl : b' = !b := by cases b <;> cases b' <;> simp_all
    rcases Nat.lt_or_ge m m' with h | h
    · exact riadd_lt b hm hm' hk hj h
    · exact riadd_ge b hm hm' hk hj h
theorem rof_z' {w : World} (z : Int) (n : Nat) (hz : z = (n : Int)) (hn : n < 18446744073709551616) : Calls Tryz.prog 62 #[.int .u64 z] w (NEnd n 2 w) := by
  subst hz
  exact rof_n n hn
set_option maxRecDepth 20000 in
set_option maxHeartbeats 1000000 in
theorem riof_p (n : Int) (h : 0 ≤ n) (h' : n < 9223372036854775808) (w : World) : Calls Tryz.prog 36 #[.int .i64 n] w (IEnd n 2 w) := by
  have B0 := below_a1 w (.cells #[.bool false, .slice none 0 0] 25)
  have kr := (Rx.new w (w.heap.size) (by simp))
  go_enter Tryz.func36, Tryz.ntmps36
  have kr0 := kr.1
  have kr1 := kr.2.1
  have kr2 := kr.2.2.1
  have kr3 := kr.2.2.2
  go_wp2_with fail
  refine (rof_z' _ n.natAbs ?_ ?_).mono ?_
  · first | omega | (rw [IntKind.wrap_u64]; unfold wrap64; omega) | (simp only [IntKind.wrap_u64]; omega)
  · omega
  clear kr0 kr1 kr2 kr3
  rintro e w1 ⟨v1, rfl, z1, bb⟩
  have kr := kr.below bb
  have B0 := B0.trans (bb.mono B0.size)
  clear bb
  obtain ⟨A2, n2, c2, rfl, _, _⟩ := z1.nm.form
  have zr : Iz w1 (.agg #[.bool false, .slice A2 n2 c2]) n 2 := ⟨_, _, _, _, n.natAbs, rfl, z1, by simp [sgn]; omega, fun e => by first | rfl | omega⟩
  have kr0 := kr.1
  have kr1 := kr.2.1
  have kr2 := kr.2.2.1
  have kr3 := kr.2.2.2
  go_wp2
  refine bodyPost_ret (v := .agg #[.bool false, .slice A2 n2 c2]) (by simp [results, Tryz.results36, go_sem, kr0, kr1]) rfl ⟨_, rfl, zr.ret kr _ _, below_ret B0 (by omega) _ _⟩
set_option maxRecDepth 20000 in
set_option maxHeartbeats 1000000 in
theorem riof_m (n : Int) (h : n < 0) (h' : -9223372036854775808 ≤ n) (w : World) : Calls Tryz.prog 36 #[.int .i64 n] w (IEnd n 2 w) := by
  have B0 := below_a1 w (.cells #[.bool false, .slice none 0 0] 25)
  have kr := (Rx.new w (w.heap.size) (by simp))
  go_enter Tryz.func36, Tryz.ntmps36
  have kr0 := kr.1
  have kr1 := kr.2.1
  have kr2 := kr.2.2.1
  have kr3 := kr.2.2.2
  go_wp2_with fail
  refine (rof_z' _ n.natAbs ?_ ?_).mono ?_
  · first | omega | (rw [IntKind.wrap_u64]; unfold wrap64; omega) | (simp only [IntKind.wrap_u64]; omega)
  · omega
  clear kr0 kr1 kr2 kr3
  rintro e w1 ⟨v1, rfl, z1, bb⟩
  have kr := kr.below bb
  have B0 := B0.trans (bb.mono B0.size)
  clear bb
  obtain ⟨A2, n2, c2, rfl, _, _⟩ := z1.nm.form
  have zr : Iz w1 (.agg #[.bool true, .slice A2 n2 c2]) n 2 := ⟨_, _, _, _, n.natAbs, rfl, z1, by simp [sgn]; omega, fun e => by first | rfl | omega⟩
  have kr0 := kr.1
  have kr1 := kr.2.1
  have kr2 := kr.2.2.1
  have kr3 := kr.2.2.2
  go_wp2
  refine bodyPost_ret (v := .agg #[.bool true, .slice A2 n2 c2]) (by simp [results, Tryz.results36, go_sem, kr0, kr1]) rfl ⟨_, rfl, zr.ret kr _ _, below_ret B0 (by omega) _ _⟩
theorem riof_i (n : Int) (h : -9223372036854775808 ≤ n) (h' : n < 9223372036854775808) (w : World) : Calls Tryz.prog 36 #[.int .i64 n] w (IEnd n 2 w) := by
  rcases Int.lt_or_le n 0 with h0 | h0
  · exact riof_m n h0 h w
  · exact riof_p n h0 h' w
def BoolEnd (b : Bool) (w : World) (e : Ending) (w' : World) : Prop := e = .returned (.bool b) ∧ Below w.heap.size w w'
end Go.Proofs.YtfdildganfjahaaGreatDoor
/-
  The walk of garmentref02.Cmp.
-/
namespace Go.Proofs.YtfdildganfjahaaGreatDoor
open Go.RowKit
attribute [local go_sem ↓] Go.wp_at_zero Go.wp_at_succ
set_option linter.unusedVariables false

set_option maxRecDepth 20000 in
set_option maxHeartbeats 8000000 in
theorem ricmp_x {w : World} {b b' : Bool} {A A' : Option Addr} {n n' c c' k j : Nat} {z y : Int} (h : Iv w (.agg #[.bool b, .slice A n c]) z k) (hu : Iv w (.agg #[.bool b', .slice A' n' c']) y j) (hk : k ≤ 400) (hj : j ≤ 400) :
    Calls Tryz.prog 44 #[.agg #[.bool b, .slice A n c], .agg #[.bool b', .slice A' n' c']] w (I64End (cmpZ z y) w) := by
  have B0 := below_a2 w (.cells #[.bool b, .slice A n c] 25) (.cells #[.bool b', .slice A' n' c'] 25)
  have h := h.below B0
  have hu := hu.below B0
  have ka := ((Bx.new w (w.heap.size) (by simp) (.bool b) (.slice A n c)).below (below_alloc (w.alloc (.cells #[.bool b, .slice A n c] 25)) (.cells #[.bool b', .slice A' n' c'] 25)))
  have kb := (Bx.new (w.alloc (.cells #[.bool b, .slice A n c] 25)) (w.heap.size + 1) (by simp) (.bool b') (.slice A' n' c'))
  have hs : w.heap.size + 2 ≤ ((w.alloc (.cells #[.bool b, .slice A n c] 25)).alloc (.cells #[.bool b', .slice A' n' c'] 25)).heap.size := by simp
  go_enter Tryz.func44, Tryz.ntmps44
  go_upto_region 1 with fail
  obtain ⟨W, hW⟩ : ∃ W0, ((w.alloc (.cells #[.bool b, .slice A n c] 25)).alloc (.cells #[.bool b', .slice A' n' c'] 25)) = W0 := ⟨_, rfl⟩
  rw [hW] at h hu ka kb hs B0 ⊢
  clear hW
  have s0 := hs
  have hs : Bw (w.heap.size + 2) W W := ⟨Below.refl _ _, hs⟩
  have HS : Hid (∀ w', Bw (w.heap.size + 2) W w' → w'.cell? ⟨w.heap.size, 0, none⟩ = some (.bool b) ∧ w'.cell? ⟨w.heap.size, 1, none⟩ = some (.slice A n c) ∧ w'.cell? ⟨w.heap.size + 1, 0, none⟩ = some (.bool b') ∧ w'.cell? ⟨w.heap.size + 1, 1, none⟩ = some (.slice A' n' c')) := by
    intro w' hb
    have e0 := hb.bx ka (by omega)
    have e1 := hb.bx kb (by omega)
    exact ⟨e0.1, e0.2, e1.1, e1.2⟩
  go_cut [5, 6] (fun s5 s6 wx => Two (w.heap.size + 2) W z y k j s5 s6 wx)
  case first =>
    clear ka kb
    go_region_held3 (fun w' => w'.cell? ⟨w.heap.size, 0, none⟩ = some (.bool b) ∧ w'.cell? ⟨w.heap.size, 1, none⟩ = some (.slice A n c) ∧ w'.cell? ⟨w.heap.size + 1, 0, none⟩ = some (.bool b') ∧ w'.cell? ⟨w.heap.size + 1, 1, none⟩ = some (.slice A' n' c'))
      (first | exact HS.out _ hs | (refine HS.out _ ?_; repeat (first | exact hs | refine Bw.drew ?_ | exact hs.up ‹_› | refine Bw.alloc ?_ _ | refine Bw.set ?_ _ (by first | omega | (simp; omega)) _)))
      (first
        | (go_at_call 65; (first | (with_reducible refine (rnorm_i h.drew ?_).mono ?_) | (with_reducible refine (rnorm_i (h.below (below_alloc _ _)).drew ?_).mono ?_) | (with_reducible refine (rnorm_i ((h.below (below_alloc _ _)).below (below_alloc _ _)).drew ?_).mono ?_)); omega; rintro e w1 ⟨v1, rfl, z1, bb⟩; (first | have hu := hu.drew.below bb | have hu := (hu.below (below_alloc _ _)).drew.below bb | have hu := ((hu.below (below_alloc _ _)).below (below_alloc _ _)).drew.below bb); (first | have hs := hs.drew.up bb | have hs := (hs.alloc _).drew.up bb | have hs := ((hs.alloc _).alloc _).drew.up bb); have s1 := hs.2; (first | (have p1 := ((Rx.new _ W.heap.size (by rfl)).below (below_alloc _ _)).drew.below bb; have p2 := (Rx.new _ (W.heap.size + 1) (by simp)).drew.below bb) | have p1 := (Rx.new _ W.heap.size (by rfl)).drew.below bb | skip); (try obtain ⟨g1, g2, g3⟩ := p1.apart); (try obtain ⟨g4, g5, g6⟩ := p2.apart); clear bb h)
        | (go_at_call 65; (first | (with_reducible refine (rnorm_i hu ?_).mono ?_) | (with_reducible refine (rnorm_i (hu.below (below_alloc _ _)) ?_).mono ?_) | (with_reducible refine (rnorm_i ((hu.below (below_alloc _ _)).below (below_alloc _ _)) ?_).mono ?_)); omega; rintro e w2 ⟨v2, rfl, z2, bb⟩; (first | have z1 := z1.below bb | have z1 := (z1.below (below_alloc _ _)).below bb | have z1 := ((z1.below (below_alloc _ _)).below (below_alloc _ _)).below bb); (first | have hs := hs.up bb | have hs := (hs.alloc _).up bb | have hs := ((hs.alloc _).alloc _).up bb); have s2 := hs.2; (try (first | have p1 := p1.below bb | have p1 := (p1.below (below_alloc _ _)).below bb | have p1 := ((p1.below (below_alloc _ _)).below (below_alloc _ _)).below bb)); (try (first | have p2 := p2.below bb | have p2 := (p2.below (below_alloc _ _)).below bb | have p2 := ((p2.below (below_alloc _ _)).below (below_alloc _ _)).below bb)); (first | (have q1 := ((Rx.new _ w1.heap.size (by rfl)).below (below_alloc _ _)).below bb; have q2 := (Rx.new _ (w1.heap.size + 1) (by simp)).below bb) | have q1 := (Rx.new _ w1.heap.size (by rfl)).below bb | skip); (try (have f1h := p1.1; obtain ⟨f1e, f1f, f1g⟩ := p1.apart; have f1i := p1.2.1; have f1j := p1.2.2.1; have f1k := p1.2.2.2)); (try (have f2h := p2.1; obtain ⟨f2e, f2f, f2g⟩ := p2.apart; have f2i := p2.2.1; have f2j := p2.2.2.1; have f2k := p2.2.2.2)); (try (have d1h := q1.1; obtain ⟨d1e, d1f, d1g⟩ := q1.apart; have d1i := q1.2.1; have d1j := q1.2.2.1; have d1k := q1.2.2.2)); (try (have d2h := q2.1; obtain ⟨d2e, d2f, d2g⟩ := q2.apart; have d2i := q2.2.1; have d2j := q2.2.2.1; have d2k := q2.2.2.2)); obtain ⟨b1, A1, n1, c1, rfl, z1⟩ := z1.cells; obtain ⟨b2, A2, n2, c2, rfl, z2⟩ := z2.cells; clear bb hu))
    all_goals
      go_wp2_with fail
      go_meet
      refine ⟨_, _, b1, A1, n1, c1, b2, A2, n2, c2, rfl, rfl, ?_, ?_, ?_, ?_, ?_⟩
      all_goals
        repeat' (first | with_reducible assumption | (with_reducible exact Bx.new _ _ (by simp) _ _) | (with_reducible refine Bx.later ?_ _) | (with_reducible refine Rx.written ?_ _ _) | (with_reducible refine Bx.ret ?_ (by omega) _ _) | (with_reducible refine Iz.later ?_ _) | (with_reducible refine Iz.ret ?_ ?_ _ _) | (with_reducible refine Iv.later ?_ _) | (with_reducible refine Iv.ret ?_ ?_ _ _) | (with_reducible refine Rx.ret ?_ (by omega) _ _) | (with_reducible refine Bw.alloc ?_ _) | (with_reducible refine Bw.ret ?_ (by omega) _ _))
  case rest =>
    obtain ⟨gx, gy, bx, Ax, nx, cx, by', Ay, ny, cy, rfl, rfl, kx, ky, zx, zy, hw⟩ := hcut
    have ka := hw.bx ka (by omega)
    have kb := hw.bx kb (by omega)
    clear HS
    have B0 := B0.trans (hw.1.mono (by omega))
    obtain ⟨m, zm, hz, h0⟩ := zx.parts
    obtain ⟨m', ym, hy, h0'⟩ := zy.parts
    clear zx zy
    have kx0 := kx.1
    have kx1 := kx.2
    have ky0 := ky.1
    have ky1 := ky.2
    have HZ := cmpZ_cases z y
    cases bx <;> cases by'
    · have HC := cmpI_cases m m'
      have e : cmpI m m' = cmpZ z y := by simp only [sgn_false] at hz hy; omega
      have E := Lib.hid e
      clear hz hy HZ HC e h0 h0'
      go_wp2_with fail
      refine (rcmp_n zm.nm ym.nm (by omega) (by omega) _ E.out).mono ?_
      rintro e w9 ⟨rfl, bb⟩
      go_wp2
      go_ret
      exact ⟨rfl, B0.trans (bb.mono B0.size)⟩
    · have hp : 0 < m' := by rcases Nat.eq_zero_or_pos m' with h | h; exact absurd (h0' h) (by simp); exact h
      have e : 1 = cmpZ z y := by simp only [sgn_false, sgn_true] at hz hy; omega
      have E := Lib.hid e
      clear hz hy HZ e h0 h0'
      go_wp2
      go_ret
      rw [← E.out]
      exact ⟨rfl, B0⟩
    · have hp : 0 < m := by rcases Nat.eq_zero_or_pos m with h | h; exact absurd (h0 h) (by simp); exact h
      have e : -1 = cmpZ z y := by simp only [sgn_false, sgn_true] at hz hy; omega
      have E := Lib.hid e
      clear hz hy HZ e h0 h0'
      go_wp2
      go_ret
      rw [← E.out]
      exact ⟨rfl, B0⟩
    · have HC := cmpI_cases m' m
      have e : cmpI m' m = cmpZ z y := by simp only [sgn_true] at hz hy; omega
      have E := Lib.hid e
      clear hz hy HZ HC e h0 h0'
      go_wp2_with fail
      refine (rcmp_n ym.nm zm.nm (by omega) (by omega) _ E.out).mono ?_
      rintro e w9 ⟨rfl, bb⟩
      go_wp2
      go_ret
      exact ⟨rfl, B0.trans (bb.mono B0.size)⟩
theorem ricmp_i {w : World} {v u : Value} {z y : Int} {k j : Nat} (h : Iv w v z k) (hu : Iv w u y j) (hk : k ≤ 400) (hj : j ≤ 400) (c : Int) (hc : cmpZ z y = c) : Calls Tryz.prog 44 #[v, u] w (I64End c w) := by
  subst hc
  have h' := h
  have hu' := hu
  obtain ⟨b, A, n, d, m, rfl, _⟩ := h'
  obtain ⟨b', A', n', d', m', rfl, _⟩ := hu'
  exact ricmp_x h hu hk hj
end Go.Proofs.YtfdildganfjahaaGreatDoor
/-
  The walk of garmentref02.DivMod.
-/
namespace Go.Proofs.YtfdildganfjahaaGreatDoor
open Go.RowKit
attribute [local go_sem ↓] Go.wp_at_zero Go.wp_at_succ
set_option linter.unusedVariables false

theorem div_m' (c : Bool) (m m' : Nat) (h : 0 < m') (h' : 0 < m % m') : sgn (!(true == c)) (m / m' + 1) = sgn true m / sgn c m' ∧ sgn false (m' - m % m') = sgn true m % sgn c m' := by
  rcases div_m c m m' h with e | e
  · exact ⟨e.1, e.2 h'⟩
  · omega
/-- Quotient and remainder, or the zero values. -/
def DEnd (z y : Int) (k j : Nat) (w : World) (e : Ending) (w' : World) : Prop := if y = 0 then ID0End w e w' else IDEnd (z / y) (z % y) k j w e w'
theorem DEnd.zero {z y : Int} {k j : Nat} {w : World} {e : Ending} {w' : World} (hy : y = 0) (h : ID0End w e w') : DEnd z y k j w e w' := by
  unfold DEnd; rw [if_pos hy]; exact h
theorem DEnd.some {z y q r : Int} {k j : Nat} {w : World} {e : Ending} {w' : World} (hy : y ≠ 0) (h : IDEnd q r k j w e w') (hq : q = z / y) (hr : r = z % y) : DEnd z y k j w e w' := by
  unfold DEnd; rw [if_neg hy, ← hq, ← hr]; exact h
set_option maxRecDepth 20000 in
set_option maxHeartbeats 12000000 in
theorem ridiv_x {w : World} {b b' : Bool} {A A' : Option Addr} {n n' c c' k j : Nat} {z y : Int} (h : Iv w (.agg #[.bool b, .slice A n c]) z k) (hu : Iv w (.agg #[.bool b', .slice A' n' c']) y j) (hk : k ≤ 100) (hj : j ≤ 100) :
    Calls Tryz.prog 58 #[.agg #[.bool b, .slice A n c], .agg #[.bool b', .slice A' n' c']] w (DEnd z y (k + 3) j w) := by
  have B0 := below_a4 w (.cells #[.bool b, .slice A n c] 25) (.cells #[.bool b', .slice A' n' c'] 25) (.cells #[.bool false, .slice none 0 0] 25) (.cells #[.bool false, .slice none 0 0] 25)
  have h := h.below B0
  have hu := hu.below B0
  have ka := ((((Bx.new w (w.heap.size) (by simp) (.bool b) (.slice A n c)).below (below_alloc (w.alloc (.cells #[.bool b, .slice A n c] 25)) (.cells #[.bool b', .slice A' n' c'] 25))).below (below_alloc ((w.alloc (.cells #[.bool b, .slice A n c] 25)).alloc (.cells #[.bool b', .slice A' n' c'] 25)) (.cells #[.bool false, .slice none 0 0] 25))).below (below_alloc (((w.alloc (.cells #[.bool b, .slice A n c] 25)).alloc (.cells #[.bool b', .slice A' n' c'] 25)).alloc (.cells #[.bool false, .slice none 0 0] 25)) (.cells #[.bool false, .slice none 0 0] 25)))
  have kb := (((Bx.new (w.alloc (.cells #[.bool b, .slice A n c] 25)) (w.heap.size + 1) (by simp) (.bool b') (.slice A' n' c')).below (below_alloc ((w.alloc (.cells #[.bool b, .slice A n c] 25)).alloc (.cells #[.bool b', .slice A' n' c'] 25)) (.cells #[.bool false, .slice none 0 0] 25))).below (below_alloc (((w.alloc (.cells #[.bool b, .slice A n c] 25)).alloc (.cells #[.bool b', .slice A' n' c'] 25)).alloc (.cells #[.bool false, .slice none 0 0] 25)) (.cells #[.bool false, .slice none 0 0] 25)))
  have kq := ((Rx.new ((w.alloc (.cells #[.bool b, .slice A n c] 25)).alloc (.cells #[.bool b', .slice A' n' c'] 25)) (w.heap.size + 1 + 1) (by simp)).below (below_alloc (((w.alloc (.cells #[.bool b, .slice A n c] 25)).alloc (.cells #[.bool b', .slice A' n' c'] 25)).alloc (.cells #[.bool false, .slice none 0 0] 25)) (.cells #[.bool false, .slice none 0 0] 25)))
  have kr := (Rx.new (((w.alloc (.cells #[.bool b, .slice A n c] 25)).alloc (.cells #[.bool b', .slice A' n' c'] 25)).alloc (.cells #[.bool false, .slice none 0 0] 25)) (w.heap.size + 1 + 1 + 1) (by simp))
  have hs : w.heap.size + 4 ≤ ((((w.alloc (.cells #[.bool b, .slice A n c] 25)).alloc (.cells #[.bool b', .slice A' n' c'] 25)).alloc (.cells #[.bool false, .slice none 0 0] 25)).alloc (.cells #[.bool false, .slice none 0 0] 25)).heap.size := by simp
  go_enter Tryz.func58, Tryz.ntmps58
  go_upto_region 1 with fail
  obtain ⟨W, hW⟩ : ∃ W0, ((((w.alloc (.cells #[.bool b, .slice A n c] 25)).alloc (.cells #[.bool b', .slice A' n' c'] 25)).alloc (.cells #[.bool false, .slice none 0 0] 25)).alloc (.cells #[.bool false, .slice none 0 0] 25)) = W0 := ⟨_, rfl⟩
  rw [hW] at h hu ka kb kq kr hs B0 ⊢
  clear hW
  have s0 := hs
  have hs : Bw (w.heap.size + 4) W W := ⟨Below.refl _ _, hs⟩
  have HS : Hid (∀ w', Bw (w.heap.size + 4) W w' → w'.cell? ⟨w.heap.size, 0, none⟩ = some (.bool b) ∧ w'.cell? ⟨w.heap.size, 1, none⟩ = some (.slice A n c) ∧ w'.cell? ⟨w.heap.size + 1, 0, none⟩ = some (.bool b') ∧ w'.cell? ⟨w.heap.size + 1, 1, none⟩ = some (.slice A' n' c')) := by
    intro w' hb
    have e0 := hb.bx ka (by omega)
    have e1 := hb.bx kb (by omega)
    exact ⟨e0.1, e0.2, e1.1, e1.2⟩
  go_cut [7, 8] (fun s5 s6 wx => Two (w.heap.size + 4) W z y k j s5 s6 wx)
  case first =>
    clear ka kb
    go_region_held3 (fun w' => w'.cell? ⟨w.heap.size, 0, none⟩ = some (.bool b) ∧ w'.cell? ⟨w.heap.size, 1, none⟩ = some (.slice A n c) ∧ w'.cell? ⟨w.heap.size + 1, 0, none⟩ = some (.bool b') ∧ w'.cell? ⟨w.heap.size + 1, 1, none⟩ = some (.slice A' n' c'))
      (first | exact HS.out _ hs | (refine HS.out _ ?_; repeat (first | exact hs | refine Bw.drew ?_ | exact hs.up ‹_› | refine Bw.alloc ?_ _ | refine Bw.set ?_ _ (by first | omega | (simp; omega)) _)))
      (first
        | (go_at_call 65; (first | (with_reducible refine (rnorm_i h.drew ?_).mono ?_) | (with_reducible refine (rnorm_i (h.below (below_alloc _ _)).drew ?_).mono ?_) | (with_reducible refine (rnorm_i ((h.below (below_alloc _ _)).below (below_alloc _ _)).drew ?_).mono ?_)); omega; rintro e w1 ⟨v1, rfl, z1, bb⟩; (first | have hu := hu.drew.below bb | have hu := (hu.below (below_alloc _ _)).drew.below bb | have hu := ((hu.below (below_alloc _ _)).below (below_alloc _ _)).drew.below bb); (first | have hs := hs.drew.up bb | have hs := (hs.alloc _).drew.up bb | have hs := ((hs.alloc _).alloc _).drew.up bb); have s1 := hs.2; (first | (have p1 := ((Rx.new _ W.heap.size (by rfl)).below (below_alloc _ _)).drew.below bb; have p2 := (Rx.new _ (W.heap.size + 1) (by simp)).drew.below bb) | have p1 := (Rx.new _ W.heap.size (by rfl)).drew.below bb | skip); (try obtain ⟨g1, g2, g3⟩ := p1.apart); (try obtain ⟨g4, g5, g6⟩ := p2.apart); clear bb h)
        | (go_at_call 65; (first | (with_reducible refine (rnorm_i hu ?_).mono ?_) | (with_reducible refine (rnorm_i (hu.below (below_alloc _ _)) ?_).mono ?_) | (with_reducible refine (rnorm_i ((hu.below (below_alloc _ _)).below (below_alloc _ _)) ?_).mono ?_)); omega; rintro e w2 ⟨v2, rfl, z2, bb⟩; (first | have z1 := z1.below bb | have z1 := (z1.below (below_alloc _ _)).below bb | have z1 := ((z1.below (below_alloc _ _)).below (below_alloc _ _)).below bb); (first | have hs := hs.up bb | have hs := (hs.alloc _).up bb | have hs := ((hs.alloc _).alloc _).up bb); have s2 := hs.2; (try (first | have p1 := p1.below bb | have p1 := (p1.below (below_alloc _ _)).below bb | have p1 := ((p1.below (below_alloc _ _)).below (below_alloc _ _)).below bb)); (try (first | have p2 := p2.below bb | have p2 := (p2.below (below_alloc _ _)).below bb | have p2 := ((p2.below (below_alloc _ _)).below (below_alloc _ _)).below bb)); (first | (have q1 := ((Rx.new _ w1.heap.size (by rfl)).below (below_alloc _ _)).below bb; have q2 := (Rx.new _ (w1.heap.size + 1) (by simp)).below bb) | have q1 := (Rx.new _ w1.heap.size (by rfl)).below bb | skip); (try (have f1h := p1.1; obtain ⟨f1e, f1f, f1g⟩ := p1.apart; have f1i := p1.2.1; have f1j := p1.2.2.1; have f1k := p1.2.2.2)); (try (have f2h := p2.1; obtain ⟨f2e, f2f, f2g⟩ := p2.apart; have f2i := p2.2.1; have f2j := p2.2.2.1; have f2k := p2.2.2.2)); (try (have d1h := q1.1; obtain ⟨d1e, d1f, d1g⟩ := q1.apart; have d1i := q1.2.1; have d1j := q1.2.2.1; have d1k := q1.2.2.2)); (try (have d2h := q2.1; obtain ⟨d2e, d2f, d2g⟩ := q2.apart; have d2i := q2.2.1; have d2j := q2.2.2.1; have d2k := q2.2.2.2)); obtain ⟨b1, A1, n1, c1, rfl, z1⟩ := z1.cells; obtain ⟨b2, A2, n2, c2, rfl, z2⟩ := z2.cells; clear bb hu))
    all_goals
      go_wp2_with fail
      go_meet
      refine ⟨_, _, b1, A1, n1, c1, b2, A2, n2, c2, rfl, rfl, ?_, ?_, ?_, ?_, ?_⟩
      all_goals
        repeat' (first | with_reducible assumption | (with_reducible exact Bx.new _ _ (by simp) _ _) | (with_reducible refine Bx.later ?_ _) | (with_reducible refine Rx.written ?_ _ _) | (with_reducible refine Bx.ret ?_ (by omega) _ _) | (with_reducible refine Iz.later ?_ _) | (with_reducible refine Iz.ret ?_ ?_ _ _) | (with_reducible refine Iv.later ?_ _) | (with_reducible refine Iv.ret ?_ ?_ _ _) | (with_reducible refine Rx.ret ?_ (by omega) _ _) | (with_reducible refine Bw.alloc ?_ _) | (with_reducible refine Bw.ret ?_ (by omega) _ _))
  case rest =>
    obtain ⟨gx, gy, bx, Ax, nx, cx, by', Ay, ny, cy, rfl, rfl, kx, ky, zx, zy, hw⟩ := hcut
    have ka := hw.bx ka (by omega)
    have kb := hw.bx kb (by omega)
    have kq := hw.rx kq (by omega)
    have kr := hw.rx kr (by omega)
    clear HS
    have B0 := B0.trans (hw.1.mono (by omega))
    obtain ⟨m, zm, hz, h0⟩ := zx.parts
    obtain ⟨m', ym, hy, h0'⟩ := zy.parts
    clear zx zy ka kb h hu hw
    have HB := Lib.hid B0
    clear B0
    have hmy := sgn_abs by' m'
    rw [← hy] at hmy
    have HZ := Lib.hid hz
    have HY := Lib.hid hy
    clear hz hy h0 h0'
    by_cases hy0 : y = 0
    · have hm' : m' = 0 := by rw [hy0] at hmy; simpa using hmy.symm
      have Hy0 := Lib.hid hy0
      have Hm' := Lib.hid hm'
      have B0 := HB.out
      clear hy0 hmy hm'
      have kx0 := kx.1
      have kx1 := kx.2
      have ky0 := ky.1
      have ky1 := ky.2
      have kq0 := kq.1
      have kq1 := kq.2.1
      have kq2 := kq.2.2.1
      have kq3 := kq.2.2.2
      have kr0 := kr.1
      have kr1 := kr.2.1
      have kr2 := kr.2.2.1
      have kr3 := kr.2.2.2
      go_wp2_with fail
      refine (rdiv_n0 zm.nm ym.nm (by omega) Hm'.out).mono ?_
      clear kx0 kx1 ky0 ky1 kq0 kq1 kq2 kq3 kr0 kr1 kr2 kr3
      rintro e w10 ⟨rfl, bb⟩
      have zm := zm.below bb
      have ym := ym.below bb
      have kx := kx.below bb
      have ky := ky.below bb
      have kq := kq.below bb
      have kr := kr.below bb
      have B0 := B0.trans (bb.mono B0.size)
      clear bb
      have kx0 := kx.1
      have kx1 := kx.2
      have ky0 := ky.1
      have ky1 := ky.2
      have kq0 := kq.1
      have kq1 := kq.2.1
      have kq2 := kq.2.2.1
      have kq3 := kq.2.2.2
      have kr0 := kr.1
      have kr1 := kr.2.1
      have kr2 := kr.2.2.1
      have kr3 := kr.2.2.2
      go_wp2
      refine bodyPost_ret (v := .tuple #[.agg #[.bool false, .slice none 0 0], .agg #[.bool false, .slice none 0 0], .bool false]) (by simp [results, Tryz.results58, go_sem, kq0, kq1, kr0, kr1]) rfl (DEnd.zero Hy0.out ⟨rfl, below_ret (below_ret B0 (by omega) _ _) (by omega) _ _⟩)
    · have hp : 0 < m' := by rcases Nat.eq_zero_or_pos m' with h | h; exact absurd (by rw [HY.out, h, sgn_zero]) hy0; exact h
      have Hp := Lib.hid hp
      have Hy0 := Lib.hid hy0
      clear hy0 hmy hp
      cases bx
      · cases by'
        · skip
          have B0 := HB.out
          have kx0 := kx.1
          have kx1 := kx.2
          have ky0 := ky.1
          have ky1 := ky.2
          have kq0 := kq.1
          have kq1 := kq.2.1
          have kq2 := kq.2.2.1
          have kq3 := kq.2.2.2
          have kr0 := kr.1
          have kr1 := kr.2.1
          have kr2 := kr.2.2.1
          have kr3 := kr.2.2.2
          go_wp2_with fail
          refine (rdiv_n zm.nm ym.nm (by omega) (by omega) Hp.out).mono ?_
          clear kx0 kx1 ky0 ky1 kq0 kq1 kq2 kq3 kr0 kr1 kr2 kr3
          rintro e w10 ⟨v1, v2, rfl, z1, z2, bb⟩
          have zm := zm.below bb
          have ym := ym.below bb
          have kx := kx.below bb
          have ky := ky.below bb
          have kq := kq.below bb
          have kr := kr.below bb
          have B0 := B0.trans (bb.mono B0.size)
          clear bb
          obtain ⟨A2, n2, c2, rfl, _, _⟩ := z2.nm.form
          have z1 := z1.wide' (k' := k + 3) (by omega)
          have kx0 := kx.1
          have kx1 := kx.2
          have ky0 := ky.1
          have ky1 := ky.2
          have kq0 := kq.1
          have kq1 := kq.2.1
          have kq2 := kq.2.2.1
          have kq3 := kq.2.2.2
          have kr0 := kr.1
          have kr1 := kr.2.1
          have kr2 := kr.2.2.1
          have kr3 := kr.2.2.2
          go_wp2_with fail
          refine (make1_i false z1.nm (by omega) _ rfl).mono ?_
          clear kx0 kx1 ky0 ky1 kq0 kq1 kq2 kq3 kr0 kr1 kr2 kr3
          rintro e w11 ⟨vq, rfl, zq, bb⟩
          have kx := kx.below bb
          have ky := ky.below bb
          have kq := kq.below bb
          have kr := kr.below bb
          have z1 := z1.below bb
          have z2 := z2.below bb
          have B0 := B0.trans (bb.mono B0.size)
          clear bb
          obtain ⟨bq, Aq, nq, cq, rfl, zq⟩ := zq.cells
          have kx0 := kx.1
          have kx1 := kx.2
          have ky0 := ky.1
          have ky1 := ky.2
          have kq0 := kq.1
          have kq1 := kq.2.1
          have kq2 := kq.2.2.1
          have kq3 := kq.2.2.2
          have kr0 := kr.1
          have kr1 := kr.2.1
          have kr2 := kr.2.2.1
          have kr3 := kr.2.2.2
          go_wp2_with fail
          refine (make1_i false z2.nm (by omega) _ rfl).mono ?_
          clear kx0 kx1 ky0 ky1 kq0 kq1 kq2 kq3 kr0 kr1 kr2 kr3
          rintro e w12 ⟨vr, rfl, zr, bb⟩
          have kx := kx.below bb
          have ky := ky.below bb
          have kq := kq.below bb
          have kr := kr.below bb
          have z1 := z1.below bb
          have z2 := z2.below bb
          have zq := zq.below bb
          have B0 := B0.trans (bb.mono B0.size)
          clear bb
          obtain ⟨br, Ar, nr, cr, rfl, zr⟩ := zr.cells
          have kx0 := kx.1
          have kx1 := kx.2
          have ky0 := ky.1
          have ky1 := ky.2
          have kq0 := kq.1
          have kq1 := kq.2.1
          have kq2 := kq.2.2.1
          have kq3 := kq.2.2.2
          have kr0 := kr.1
          have kr1 := kr.2.1
          have kr2 := kr.2.2.1
          have kr3 := kr.2.2.2
          go_wp2
          refine bodyPost_ret (v := .tuple #[.agg #[.bool bq, .slice Aq nq cq], .agg #[.bool br, .slice Ar nr cr], .bool true]) (by simp [results, Tryz.results58, go_sem, kq0, kq1, kr0, kr1]) rfl (DEnd.some Hy0.out ⟨_, _, rfl, (zq.ret kq _ _).ret (kr.ret (by omega) _ _) _ _, (zr.ret kq _ _).ret (kr.ret (by omega) _ _) _ _, below_ret (below_ret B0 (by omega) _ _) (by omega) _ _⟩ (by rw [HZ.out, HY.out]; exact (div_p false false m m' Hp.out (.inl rfl)).1) (by rw [HZ.out, HY.out]; exact (div_p false false m m' Hp.out (.inl rfl)).2))
        · skip
          have B0 := HB.out
          have kx0 := kx.1
          have kx1 := kx.2
          have ky0 := ky.1
          have ky1 := ky.2
          have kq0 := kq.1
          have kq1 := kq.2.1
          have kq2 := kq.2.2.1
          have kq3 := kq.2.2.2
          have kr0 := kr.1
          have kr1 := kr.2.1
          have kr2 := kr.2.2.1
          have kr3 := kr.2.2.2
          go_wp2_with fail
          refine (rdiv_n zm.nm ym.nm (by omega) (by omega) Hp.out).mono ?_
          clear kx0 kx1 ky0 ky1 kq0 kq1 kq2 kq3 kr0 kr1 kr2 kr3
          rintro e w10 ⟨v1, v2, rfl, z1, z2, bb⟩
          have zm := zm.below bb
          have ym := ym.below bb
          have kx := kx.below bb
          have ky := ky.below bb
          have kq := kq.below bb
          have kr := kr.below bb
          have B0 := B0.trans (bb.mono B0.size)
          clear bb
          obtain ⟨A2, n2, c2, rfl, _, _⟩ := z2.nm.form
          have z1 := z1.wide' (k' := k + 3) (by omega)
          have kx0 := kx.1
          have kx1 := kx.2
          have ky0 := ky.1
          have ky1 := ky.2
          have kq0 := kq.1
          have kq1 := kq.2.1
          have kq2 := kq.2.2.1
          have kq3 := kq.2.2.2
          have kr0 := kr.1
          have kr1 := kr.2.1
          have kr2 := kr.2.2.1
          have kr3 := kr.2.2.2
          go_wp2_with fail
          refine (make1_i true z1.nm (by omega) _ rfl).mono ?_
          clear kx0 kx1 ky0 ky1 kq0 kq1 kq2 kq3 kr0 kr1 kr2 kr3
          rintro e w11 ⟨vq, rfl, zq, bb⟩
          have kx := kx.below bb
          have ky := ky.below bb
          have kq := kq.below bb
          have kr := kr.below bb
          have z1 := z1.below bb
          have z2 := z2.below bb
          have B0 := B0.trans (bb.mono B0.size)
          clear bb
          obtain ⟨bq, Aq, nq, cq, rfl, zq⟩ := zq.cells
          have kx0 := kx.1
          have kx1 := kx.2
          have ky0 := ky.1
          have ky1 := ky.2
          have kq0 := kq.1
          have kq1 := kq.2.1
          have kq2 := kq.2.2.1
          have kq3 := kq.2.2.2
          have kr0 := kr.1
          have kr1 := kr.2.1
          have kr2 := kr.2.2.1
          have kr3 := kr.2.2.2
          go_wp2_with fail
          refine (make1_i false z2.nm (by omega) _ rfl).mono ?_
          clear kx0 kx1 ky0 ky1 kq0 kq1 kq2 kq3 kr0 kr1 kr2 kr3
          rintro e w12 ⟨vr, rfl, zr, bb⟩
          have kx := kx.below bb
          have ky := ky.below bb
          have kq := kq.below bb
          have kr := kr.below bb
          have z1 := z1.below bb
          have z2 := z2.below bb
          have zq := zq.below bb
          have B0 := B0.trans (bb.mono B0.size)
          clear bb
          obtain ⟨br, Ar, nr, cr, rfl, zr⟩ := zr.cells
          have kx0 := kx.1
          have kx1 := kx.2
          have ky0 := ky.1
          have ky1 := ky.2
          have kq0 := kq.1
          have kq1 := kq.2.1
          have kq2 := kq.2.2.1
          have kq3 := kq.2.2.2
          have kr0 := kr.1
          have kr1 := kr.2.1
          have kr2 := kr.2.2.1
          have kr3 := kr.2.2.2
          go_wp2
          refine bodyPost_ret (v := .tuple #[.agg #[.bool bq, .slice Aq nq cq], .agg #[.bool br, .slice Ar nr cr], .bool true]) (by simp [results, Tryz.results58, go_sem, kq0, kq1, kr0, kr1]) rfl (DEnd.some Hy0.out ⟨_, _, rfl, (zq.ret kq _ _).ret (kr.ret (by omega) _ _) _ _, (zr.ret kq _ _).ret (kr.ret (by omega) _ _) _ _, below_ret (below_ret B0 (by omega) _ _) (by omega) _ _⟩ (by rw [HZ.out, HY.out]; exact (div_p false true m m' Hp.out (.inl rfl)).1) (by rw [HZ.out, HY.out]; exact (div_p false true m m' Hp.out (.inl rfl)).2))
      · cases by'
        · by_cases he : m % m' = 0
          · have HE := Lib.hid he
            clear he
            have B0 := HB.out
            have kx0 := kx.1
            have kx1 := kx.2
            have ky0 := ky.1
            have ky1 := ky.2
            have kq0 := kq.1
            have kq1 := kq.2.1
            have kq2 := kq.2.2.1
            have kq3 := kq.2.2.2
            have kr0 := kr.1
            have kr1 := kr.2.1
            have kr2 := kr.2.2.1
            have kr3 := kr.2.2.2
            go_wp2_with fail
            refine (rdiv_n zm.nm ym.nm (by omega) (by omega) Hp.out).mono ?_
            clear kx0 kx1 ky0 ky1 kq0 kq1 kq2 kq3 kr0 kr1 kr2 kr3
            rintro e w10 ⟨v1, v2, rfl, z1, z2, bb⟩
            have zm := zm.below bb
            have ym := ym.below bb
            have kx := kx.below bb
            have ky := ky.below bb
            have kq := kq.below bb
            have kr := kr.below bb
            have B0 := B0.trans (bb.mono B0.size)
            clear bb
            obtain ⟨A2, n2, c2, rfl, _, _⟩ := z2.nm.form
            have kx0 := kx.1
            have kx1 := kx.2
            have ky0 := ky.1
            have ky1 := ky.2
            have kq0 := kq.1
            have kq1 := kq.2.1
            have kq2 := kq.2.2.1
            have kq3 := kq.2.2.2
            have kr0 := kr.1
            have kr1 := kr.2.1
            have kr2 := kr.2.2.1
            have kr3 := kr.2.2.2
            go_wp2_with fail
            refine (rnorm_n z2.nm (by omega)).mono ?_
            clear kx0 kx1 ky0 ky1 kq0 kq1 kq2 kq3 kr0 kr1 kr2 kr3
            rintro e w11 ⟨v3, rfl, z3, bb⟩
            have ym := ym.below bb
            have kx := kx.below bb
            have ky := ky.below bb
            have kq := kq.below bb
            have kr := kr.below bb
            have z1 := z1.below bb
            have z2 := z2.below bb
            have B0 := B0.trans (bb.mono B0.size)
            clear bb
            have z3 := z3.nz
            obtain ⟨A3, n3, c3, rfl, _, _⟩ := z3.nm.form
            have hn3 := z3.len0.1.2 HE.out
            have Hn3 : ¬ 0 < n3 := by omega
            clear hn3
            have z1 := z1.wide' (k' := k + 3) (by omega)
            have kx0 := kx.1
            have kx1 := kx.2
            have ky0 := ky.1
            have ky1 := ky.2
            have kq0 := kq.1
            have kq1 := kq.2.1
            have kq2 := kq.2.2.1
            have kq3 := kq.2.2.2
            have kr0 := kr.1
            have kr1 := kr.2.1
            have kr2 := kr.2.2.1
            have kr3 := kr.2.2.2
            go_wp2_with fail
            refine (make1_i true z1.nm (by omega) _ rfl).mono ?_
            clear kx0 kx1 ky0 ky1 kq0 kq1 kq2 kq3 kr0 kr1 kr2 kr3
            rintro e w12 ⟨vq, rfl, zq, bb⟩
            have kx := kx.below bb
            have ky := ky.below bb
            have kq := kq.below bb
            have kr := kr.below bb
            have z1 := z1.below bb
            have z2 := z2.below bb
            have B0 := B0.trans (bb.mono B0.size)
            clear bb
            obtain ⟨bq, Aq, nq, cq, rfl, zq⟩ := zq.cells
            have kx0 := kx.1
            have kx1 := kx.2
            have ky0 := ky.1
            have ky1 := ky.2
            have kq0 := kq.1
            have kq1 := kq.2.1
            have kq2 := kq.2.2.1
            have kq3 := kq.2.2.2
            have kr0 := kr.1
            have kr1 := kr.2.1
            have kr2 := kr.2.2.1
            have kr3 := kr.2.2.2
            go_wp2_with fail
            refine (make1_i false z2.nm (by omega) _ rfl).mono ?_
            clear kx0 kx1 ky0 ky1 kq0 kq1 kq2 kq3 kr0 kr1 kr2 kr3
            rintro e w13 ⟨vr, rfl, zr, bb⟩
            have kx := kx.below bb
            have ky := ky.below bb
            have kq := kq.below bb
            have kr := kr.below bb
            have z1 := z1.below bb
            have z2 := z2.below bb
            have zq := zq.below bb
            have B0 := B0.trans (bb.mono B0.size)
            clear bb
            obtain ⟨br, Ar, nr, cr, rfl, zr⟩ := zr.cells
            have kx0 := kx.1
            have kx1 := kx.2
            have ky0 := ky.1
            have ky1 := ky.2
            have kq0 := kq.1
            have kq1 := kq.2.1
            have kq2 := kq.2.2.1
            have kq3 := kq.2.2.2
            have kr0 := kr.1
            have kr1 := kr.2.1
            have kr2 := kr.2.2.1
            have kr3 := kr.2.2.2
            go_wp2
            refine bodyPost_ret (v := .tuple #[.agg #[.bool bq, .slice Aq nq cq], .agg #[.bool br, .slice Ar nr cr], .bool true]) (by simp [results, Tryz.results58, go_sem, kq0, kq1, kr0, kr1]) rfl (DEnd.some Hy0.out ⟨_, _, rfl, (zq.ret kq _ _).ret (kr.ret (by omega) _ _) _ _, (zr.ret kq _ _).ret (kr.ret (by omega) _ _) _ _, below_ret (below_ret B0 (by omega) _ _) (by omega) _ _⟩ (by rw [HZ.out, HY.out]; exact (div_p true false m m' Hp.out (.inr HE.out)).1) (by rw [HZ.out, HY.out]; exact (div_p true false m m' Hp.out (.inr HE.out)).2))
          · have HE : Hid (0 < m % m') := by show 0 < _; omega
            have HL : Hid (m % m' ≤ m') := Nat.le_of_lt (Nat.mod_lt m Hp.out)
            clear he
            have B0 := HB.out
            have kx0 := kx.1
            have kx1 := kx.2
            have ky0 := ky.1
            have ky1 := ky.2
            have kq0 := kq.1
            have kq1 := kq.2.1
            have kq2 := kq.2.2.1
            have kq3 := kq.2.2.2
            have kr0 := kr.1
            have kr1 := kr.2.1
            have kr2 := kr.2.2.1
            have kr3 := kr.2.2.2
            go_wp2_with fail
            refine (rdiv_n zm.nm ym.nm (by omega) (by omega) Hp.out).mono ?_
            clear kx0 kx1 ky0 ky1 kq0 kq1 kq2 kq3 kr0 kr1 kr2 kr3
            rintro e w10 ⟨v1, v2, rfl, z1, z2, bb⟩
            have zm := zm.below bb
            have ym := ym.below bb
            have kx := kx.below bb
            have ky := ky.below bb
            have kq := kq.below bb
            have kr := kr.below bb
            have B0 := B0.trans (bb.mono B0.size)
            clear bb
            obtain ⟨A2, n2, c2, rfl, _, _⟩ := z2.nm.form
            have kx0 := kx.1
            have kx1 := kx.2
            have ky0 := ky.1
            have ky1 := ky.2
            have kq0 := kq.1
            have kq1 := kq.2.1
            have kq2 := kq.2.2.1
            have kq3 := kq.2.2.2
            have kr0 := kr.1
            have kr1 := kr.2.1
            have kr2 := kr.2.2.1
            have kr3 := kr.2.2.2
            go_wp2_with fail
            refine (rnorm_n z2.nm (by omega)).mono ?_
            clear kx0 kx1 ky0 ky1 kq0 kq1 kq2 kq3 kr0 kr1 kr2 kr3
            rintro e w11 ⟨v3, rfl, z3, bb⟩
            have ym := ym.below bb
            have kx := kx.below bb
            have ky := ky.below bb
            have kq := kq.below bb
            have kr := kr.below bb
            have z1 := z1.below bb
            have z2 := z2.below bb
            have B0 := B0.trans (bb.mono B0.size)
            clear bb
            have z3 := z3.nz
            obtain ⟨A3, n3, c3, rfl, _, _⟩ := z3.nm.form
            have hn3 : 0 < n3 := by have h1 := z3.len0.1.1; have h2 := HE.out; omega
            have kx0 := kx.1
            have kx1 := kx.2
            have ky0 := ky.1
            have ky1 := ky.2
            have kq0 := kq.1
            have kq1 := kq.2.1
            have kq2 := kq.2.2.1
            have kq3 := kq.2.2.2
            have kr0 := kr.1
            have kr1 := kr.2.1
            have kr2 := kr.2.2.1
            have kr3 := kr.2.2.2
            go_wp2_with fail
            refine (rof_z' 1 1 rfl (by omega)).mono ?_
            clear kx0 kx1 ky0 ky1 kq0 kq1 kq2 kq3 kr0 kr1 kr2 kr3
            rintro e w12 ⟨v4, rfl, z4, bb⟩
            have ym := ym.below bb
            have kx := kx.below bb
            have ky := ky.below bb
            have kq := kq.below bb
            have kr := kr.below bb
            have z1 := z1.below bb
            have z2 := z2.below bb
            have B0 := B0.trans (bb.mono B0.size)
            clear bb
            have kx0 := kx.1
            have kx1 := kx.2
            have ky0 := ky.1
            have ky1 := ky.2
            have kq0 := kq.1
            have kq1 := kq.2.1
            have kq2 := kq.2.2.1
            have kq3 := kq.2.2.2
            have kr0 := kr.1
            have kr1 := kr.2.1
            have kr2 := kr.2.2.1
            have kr3 := kr.2.2.2
            go_wp2_with fail
            refine (radd_n z1.nm z4.nm (by omega) (by omega)).mono ?_
            clear kx0 kx1 ky0 ky1 kq0 kq1 kq2 kq3 kr0 kr1 kr2 kr3
            rintro e w13 ⟨v5, rfl, z5, bb⟩
            have ym := ym.below bb
            have kx := kx.below bb
            have ky := ky.below bb
            have kq := kq.below bb
            have kr := kr.below bb
            have z1 := z1.below bb
            have z2 := z2.below bb
            have z4 := z4.below bb
            have B0 := B0.trans (bb.mono B0.size)
            clear bb
            have z5 := z5.nz
            have kx0 := kx.1
            have kx1 := kx.2
            have ky0 := ky.1
            have ky1 := ky.2
            have kq0 := kq.1
            have kq1 := kq.2.1
            have kq2 := kq.2.2.1
            have kq3 := kq.2.2.2
            have kr0 := kr.1
            have kr1 := kr.2.1
            have kr2 := kr.2.2.1
            have kr3 := kr.2.2.2
            go_wp2_with fail
            refine (rsub_n ym.nm z2.nm (by omega) (by omega) HL.out).mono ?_
            clear kx0 kx1 ky0 ky1 kq0 kq1 kq2 kq3 kr0 kr1 kr2 kr3
            rintro e w14 ⟨v6, rfl, z6, bb⟩
            have ym := ym.below bb
            have kx := kx.below bb
            have ky := ky.below bb
            have kq := kq.below bb
            have kr := kr.below bb
            have z2 := z2.below bb
            have z5 := z5.below bb
            have B0 := B0.trans (bb.mono B0.size)
            clear bb
            have z6 := z6.nz
            have z5 := z5.wide' (k' := k + 3) (by omega)
            have kx0 := kx.1
            have kx1 := kx.2
            have ky0 := ky.1
            have ky1 := ky.2
            have kq0 := kq.1
            have kq1 := kq.2.1
            have kq2 := kq.2.2.1
            have kq3 := kq.2.2.2
            have kr0 := kr.1
            have kr1 := kr.2.1
            have kr2 := kr.2.2.1
            have kr3 := kr.2.2.2
            go_wp2_with fail
            refine (make1_i true z5.nm (by omega) _ rfl).mono ?_
            clear kx0 kx1 ky0 ky1 kq0 kq1 kq2 kq3 kr0 kr1 kr2 kr3
            rintro e w15 ⟨vq, rfl, zq, bb⟩
            have kx := kx.below bb
            have ky := ky.below bb
            have kq := kq.below bb
            have kr := kr.below bb
            have z5 := z5.below bb
            have z6 := z6.below bb
            have B0 := B0.trans (bb.mono B0.size)
            clear bb
            obtain ⟨bq, Aq, nq, cq, rfl, zq⟩ := zq.cells
            have kx0 := kx.1
            have kx1 := kx.2
            have ky0 := ky.1
            have ky1 := ky.2
            have kq0 := kq.1
            have kq1 := kq.2.1
            have kq2 := kq.2.2.1
            have kq3 := kq.2.2.2
            have kr0 := kr.1
            have kr1 := kr.2.1
            have kr2 := kr.2.2.1
            have kr3 := kr.2.2.2
            go_wp2_with fail
            refine (make1_i false z6.nm (by omega) _ rfl).mono ?_
            clear kx0 kx1 ky0 ky1 kq0 kq1 kq2 kq3 kr0 kr1 kr2 kr3
            rintro e w16 ⟨vr, rfl, zr, bb⟩
            have kx := kx.below bb
            have ky := ky.below bb
            have kq := kq.below bb
            have kr := kr.below bb
            have z5 := z5.below bb
            have z6 := z6.below bb
            have zq := zq.below bb
            have B0 := B0.trans (bb.mono B0.size)
            clear bb
            obtain ⟨br, Ar, nr, cr, rfl, zr⟩ := zr.cells
            have kx0 := kx.1
            have kx1 := kx.2
            have ky0 := ky.1
            have ky1 := ky.2
            have kq0 := kq.1
            have kq1 := kq.2.1
            have kq2 := kq.2.2.1
            have kq3 := kq.2.2.2
            have kr0 := kr.1
            have kr1 := kr.2.1
            have kr2 := kr.2.2.1
            have kr3 := kr.2.2.2
            go_wp2
            refine bodyPost_ret (v := .tuple #[.agg #[.bool bq, .slice Aq nq cq], .agg #[.bool br, .slice Ar nr cr], .bool true]) (by simp [results, Tryz.results58, go_sem, kq0, kq1, kr0, kr1]) rfl (DEnd.some Hy0.out ⟨_, _, rfl, (zq.ret kq _ _).ret (kr.ret (by omega) _ _) _ _, (zr.ret kq _ _).ret (kr.ret (by omega) _ _) _ _, below_ret (below_ret B0 (by omega) _ _) (by omega) _ _⟩ (by rw [HZ.out, HY.out]; exact (div_m' false m m' Hp.out HE.out).1) (by rw [HZ.out, HY.out]; exact (div_m' false m m' Hp.out HE.out).2))
        · by_cases he : m % m' = 0
          · have HE := Lib.hid he
            clear he
            have B0 := HB.out
            have kx0 := kx.1
            have kx1 := kx.2
            have ky0 := ky.1
            have ky1 := ky.2
            have kq0 := kq.1
            have kq1 := kq.2.1
            have kq2 := kq.2.2.1
            have kq3 := kq.2.2.2
            have kr0 := kr.1
            have kr1 := kr.2.1
            have kr2 := kr.2.2.1
            have kr3 := kr.2.2.2
            go_wp2_with fail
            refine (rdiv_n zm.nm ym.nm (by omega) (by omega) Hp.out).mono ?_
            clear kx0 kx1 ky0 ky1 kq0 kq1 kq2 kq3 kr0 kr1 kr2 kr3
            rintro e w10 ⟨v1, v2, rfl, z1, z2, bb⟩
            have zm := zm.below bb
            have ym := ym.below bb
            have kx := kx.below bb
            have ky := ky.below bb
            have kq := kq.below bb
            have kr := kr.below bb
            have B0 := B0.trans (bb.mono B0.size)
            clear bb
            obtain ⟨A2, n2, c2, rfl, _, _⟩ := z2.nm.form
            have kx0 := kx.1
            have kx1 := kx.2
            have ky0 := ky.1
            have ky1 := ky.2
            have kq0 := kq.1
            have kq1 := kq.2.1
            have kq2 := kq.2.2.1
            have kq3 := kq.2.2.2
            have kr0 := kr.1
            have kr1 := kr.2.1
            have kr2 := kr.2.2.1
            have kr3 := kr.2.2.2
            go_wp2_with fail
            refine (rnorm_n z2.nm (by omega)).mono ?_
            clear kx0 kx1 ky0 ky1 kq0 kq1 kq2 kq3 kr0 kr1 kr2 kr3
            rintro e w11 ⟨v3, rfl, z3, bb⟩
            have ym := ym.below bb
            have kx := kx.below bb
            have ky := ky.below bb
            have kq := kq.below bb
            have kr := kr.below bb
            have z1 := z1.below bb
            have z2 := z2.below bb
            have B0 := B0.trans (bb.mono B0.size)
            clear bb
            have z3 := z3.nz
            obtain ⟨A3, n3, c3, rfl, _, _⟩ := z3.nm.form
            have hn3 := z3.len0.1.2 HE.out
            have Hn3 : ¬ 0 < n3 := by omega
            clear hn3
            have z1 := z1.wide' (k' := k + 3) (by omega)
            have kx0 := kx.1
            have kx1 := kx.2
            have ky0 := ky.1
            have ky1 := ky.2
            have kq0 := kq.1
            have kq1 := kq.2.1
            have kq2 := kq.2.2.1
            have kq3 := kq.2.2.2
            have kr0 := kr.1
            have kr1 := kr.2.1
            have kr2 := kr.2.2.1
            have kr3 := kr.2.2.2
            go_wp2_with fail
            refine (make1_i false z1.nm (by omega) _ rfl).mono ?_
            clear kx0 kx1 ky0 ky1 kq0 kq1 kq2 kq3 kr0 kr1 kr2 kr3
            rintro e w12 ⟨vq, rfl, zq, bb⟩
            have kx := kx.below bb
            have ky := ky.below bb
            have kq := kq.below bb
            have kr := kr.below bb
            have z1 := z1.below bb
            have z2 := z2.below bb
            have B0 := B0.trans (bb.mono B0.size)
            clear bb
            obtain ⟨bq, Aq, nq, cq, rfl, zq⟩ := zq.cells
            have kx0 := kx.1
            have kx1 := kx.2
            have ky0 := ky.1
            have ky1 := ky.2
            have kq0 := kq.1
            have kq1 := kq.2.1
            have kq2 := kq.2.2.1
            have kq3 := kq.2.2.2
            have kr0 := kr.1
            have kr1 := kr.2.1
            have kr2 := kr.2.2.1
            have kr3 := kr.2.2.2
            go_wp2_with fail
            refine (make1_i false z2.nm (by omega) _ rfl).mono ?_
            clear kx0 kx1 ky0 ky1 kq0 kq1 kq2 kq3 kr0 kr1 kr2 kr3
            rintro e w13 ⟨vr, rfl, zr, bb⟩
            have kx := kx.below bb
            have ky := ky.below bb
            have kq := kq.below bb
            have kr := kr.below bb
            have z1 := z1.below bb
            have z2 := z2.below bb
            have zq := zq.below bb
            have B0 := B0.trans (bb.mono B0.size)
            clear bb
            obtain ⟨br, Ar, nr, cr, rfl, zr⟩ := zr.cells
            have kx0 := kx.1
            have kx1 := kx.2
            have ky0 := ky.1
            have ky1 := ky.2
            have kq0 := kq.1
            have kq1 := kq.2.1
            have kq2 := kq.2.2.1
            have kq3 := kq.2.2.2
            have kr0 := kr.1
            have kr1 := kr.2.1
            have kr2 := kr.2.2.1
            have kr3 := kr.2.2.2
            go_wp2
            refine bodyPost_ret (v := .tuple #[.agg #[.bool bq, .slice Aq nq cq], .agg #[.bool br, .slice Ar nr cr], .bool true]) (by simp [results, Tryz.results58, go_sem, kq0, kq1, kr0, kr1]) rfl (DEnd.some Hy0.out ⟨_, _, rfl, (zq.ret kq _ _).ret (kr.ret (by omega) _ _) _ _, (zr.ret kq _ _).ret (kr.ret (by omega) _ _) _ _, below_ret (below_ret B0 (by omega) _ _) (by omega) _ _⟩ (by rw [HZ.out, HY.out]; exact (div_p true true m m' Hp.out (.inr HE.out)).1) (by rw [HZ.out, HY.out]; exact (div_p true true m m' Hp.out (.inr HE.out)).2))
          · have HE : Hid (0 < m % m') := by show 0 < _; omega
            have HL : Hid (m % m' ≤ m') := Nat.le_of_lt (Nat.mod_lt m Hp.out)
            clear he
            have B0 := HB.out
            have kx0 := kx.1
            have kx1 := kx.2
            have ky0 := ky.1
            have ky1 := ky.2
            have kq0 := kq.1
            have kq1 := kq.2.1
            have kq2 := kq.2.2.1
            have kq3 := kq.2.2.2
            have kr0 := kr.1
            have kr1 := kr.2.1
            have kr2 := kr.2.2.1
            have kr3 := kr.2.2.2
            go_wp2_with fail
            refine (rdiv_n zm.nm ym.nm (by omega) (by omega) Hp.out).mono ?_
            clear kx0 kx1 ky0 ky1 kq0 kq1 kq2 kq3 kr0 kr1 kr2 kr3
            rintro e w10 ⟨v1, v2, rfl, z1, z2, bb⟩
            have zm := zm.below bb
            have ym := ym.below bb
            have kx := kx.below bb
            have ky := ky.below bb
            have kq := kq.below bb
            have kr := kr.below bb
            have B0 := B0.trans (bb.mono B0.size)
            clear bb
            obtain ⟨A2, n2, c2, rfl, _, _⟩ := z2.nm.form
            have kx0 := kx.1
            have kx1 := kx.2
            have ky0 := ky.1
            have ky1 := ky.2
            have kq0 := kq.1
            have kq1 := kq.2.1
            have kq2 := kq.2.2.1
            have kq3 := kq.2.2.2
            have kr0 := kr.1
            have kr1 := kr.2.1
            have kr2 := kr.2.2.1
            have kr3 := kr.2.2.2
            go_wp2_with fail
            refine (rnorm_n z2.nm (by omega)).mono ?_
            clear kx0 kx1 ky0 ky1 kq0 kq1 kq2 kq3 kr0 kr1 kr2 kr3
            rintro e w11 ⟨v3, rfl, z3, bb⟩
            have ym := ym.below bb
            have kx := kx.below bb
            have ky := ky.below bb
            have kq := kq.below bb
            have kr := kr.below bb
            have z1 := z1.below bb
            have z2 := z2.below bb
            have B0 := B0.trans (bb.mono B0.size)
            clear bb
            have z3 := z3.nz
            obtain ⟨A3, n3, c3, rfl, _, _⟩ := z3.nm.form
            have hn3 : 0 < n3 := by have h1 := z3.len0.1.1; have h2 := HE.out; omega
            have kx0 := kx.1
            have kx1 := kx.2
            have ky0 := ky.1
            have ky1 := ky.2
            have kq0 := kq.1
            have kq1 := kq.2.1
            have kq2 := kq.2.2.1
            have kq3 := kq.2.2.2
            have kr0 := kr.1
            have kr1 := kr.2.1
            have kr2 := kr.2.2.1
            have kr3 := kr.2.2.2
            go_wp2_with fail
            refine (rof_z' 1 1 rfl (by omega)).mono ?_
            clear kx0 kx1 ky0 ky1 kq0 kq1 kq2 kq3 kr0 kr1 kr2 kr3
            rintro e w12 ⟨v4, rfl, z4, bb⟩
            have ym := ym.below bb
            have kx := kx.below bb
            have ky := ky.below bb
            have kq := kq.below bb
            have kr := kr.below bb
            have z1 := z1.below bb
            have z2 := z2.below bb
            have B0 := B0.trans (bb.mono B0.size)
            clear bb
            have kx0 := kx.1
            have kx1 := kx.2
            have ky0 := ky.1
            have ky1 := ky.2
            have kq0 := kq.1
            have kq1 := kq.2.1
            have kq2 := kq.2.2.1
            have kq3 := kq.2.2.2
            have kr0 := kr.1
            have kr1 := kr.2.1
            have kr2 := kr.2.2.1
            have kr3 := kr.2.2.2
            go_wp2_with fail
            refine (radd_n z1.nm z4.nm (by omega) (by omega)).mono ?_
            clear kx0 kx1 ky0 ky1 kq0 kq1 kq2 kq3 kr0 kr1 kr2 kr3
            rintro e w13 ⟨v5, rfl, z5, bb⟩
            have ym := ym.below bb
            have kx := kx.below bb
            have ky := ky.below bb
            have kq := kq.below bb
            have kr := kr.below bb
            have z1 := z1.below bb
            have z2 := z2.below bb
            have z4 := z4.below bb
            have B0 := B0.trans (bb.mono B0.size)
            clear bb
            have z5 := z5.nz
            have kx0 := kx.1
            have kx1 := kx.2
            have ky0 := ky.1
            have ky1 := ky.2
            have kq0 := kq.1
            have kq1 := kq.2.1
            have kq2 := kq.2.2.1
            have kq3 := kq.2.2.2
            have kr0 := kr.1
            have kr1 := kr.2.1
            have kr2 := kr.2.2.1
            have kr3 := kr.2.2.2
            go_wp2_with fail
            refine (rsub_n ym.nm z2.nm (by omega) (by omega) HL.out).mono ?_
            clear kx0 kx1 ky0 ky1 kq0 kq1 kq2 kq3 kr0 kr1 kr2 kr3
            rintro e w14 ⟨v6, rfl, z6, bb⟩
            have ym := ym.below bb
            have kx := kx.below bb
            have ky := ky.below bb
            have kq := kq.below bb
            have kr := kr.below bb
            have z2 := z2.below bb
            have z5 := z5.below bb
            have B0 := B0.trans (bb.mono B0.size)
            clear bb
            have z6 := z6.nz
            have z5 := z5.wide' (k' := k + 3) (by omega)
            have kx0 := kx.1
            have kx1 := kx.2
            have ky0 := ky.1
            have ky1 := ky.2
            have kq0 := kq.1
            have kq1 := kq.2.1
            have kq2 := kq.2.2.1
            have kq3 := kq.2.2.2
            have kr0 := kr.1
            have kr1 := kr.2.1
            have kr2 := kr.2.2.1
            have kr3 := kr.2.2.2
            go_wp2_with fail
            refine (make1_i false z5.nm (by omega) _ rfl).mono ?_
            clear kx0 kx1 ky0 ky1 kq0 kq1 kq2 kq3 kr0 kr1 kr2 kr3
            rintro e w15 ⟨vq, rfl, zq, bb⟩
            have kx := kx.below bb
            have ky := ky.below bb
            have kq := kq.below bb
            have kr := kr.below bb
            have z5 := z5.below bb
            have z6 := z6.below bb
            have B0 := B0.trans (bb.mono B0.size)
            clear bb
            obtain ⟨bq, Aq, nq, cq, rfl, zq⟩ := zq.cells
            have kx0 := kx.1
            have kx1 := kx.2
            have ky0 := ky.1
            have ky1 := ky.2
            have kq0 := kq.1
            have kq1 := kq.2.1
            have kq2 := kq.2.2.1
            have kq3 := kq.2.2.2
            have kr0 := kr.1
            have kr1 := kr.2.1
            have kr2 := kr.2.2.1
            have kr3 := kr.2.2.2
            go_wp2_with fail
            refine (make1_i false z6.nm (by omega) _ rfl).mono ?_
            clear kx0 kx1 ky0 ky1 kq0 kq1 kq2 kq3 kr0 kr1 kr2 kr3
            rintro e w16 ⟨vr, rfl, zr, bb⟩
            have kx := kx.below bb
            have ky := ky.below bb
            have kq := kq.below bb
            have kr := kr.below bb
            have z5 := z5.below bb
            have z6 := z6.below bb
            have zq := zq.below bb
            have B0 := B0.trans (bb.mono B0.size)
            clear bb
            obtain ⟨br, Ar, nr, cr, rfl, zr⟩ := zr.cells
            have kx0 := kx.1
            have kx1 := kx.2
            have ky0 := ky.1
            have ky1 := ky.2
            have kq0 := kq.1
            have kq1 := kq.2.1
            have kq2 := kq.2.2.1
            have kq3 := kq.2.2.2
            have kr0 := kr.1
            have kr1 := kr.2.1
            have kr2 := kr.2.2.1
            have kr3 := kr.2.2.2
            go_wp2
            refine bodyPost_ret (v := .tuple #[.agg #[.bool bq, .slice Aq nq cq], .agg #[.bool br, .slice Ar nr cr], .bool true]) (by simp [results, Tryz.results58, go_sem, kq0, kq1, kr0, kr1]) rfl (DEnd.some Hy0.out ⟨_, _, rfl, (zq.ret kq _ _).ret (kr.ret (by omega) _ _) _ _, (zr.ret kq _ _).ret (kr.ret (by omega) _ _) _ _, below_ret (below_ret B0 (by omega) _ _) (by omega) _ _⟩ (by rw [HZ.out, HY.out]; exact (div_m' true m m' Hp.out HE.out).1) (by rw [HZ.out, HY.out]; exact (div_m' true m m' Hp.out HE.out).2))
theorem ridiv_i {w : World} {v u : Value} {z y : Int} {k j : Nat} (h : Iv w v z k) (hu : Iv w u y j) (hk : k ≤ 100) (hj : j ≤ 100) : Calls Tryz.prog 58 #[v, u] w (DEnd z y (k + 3) j w) := by
  have h' := h
  have hu' := hu
  obtain ⟨b, A, n, d, m, rfl, _⟩ := h'
  obtain ⟨b', A', n', d', m', rfl, _⟩ := hu'
  exact ridiv_x h hu hk hj
end Go.Proofs.YtfdildganfjahaaGreatDoor
/-
  The walk of integer.Small.
-/
namespace Go.Proofs.YtfdildganfjahaaGreatDoor
open Go.RowKit
attribute [local go_sem ↓] Go.wp_at_zero Go.wp_at_succ
set_option linter.unusedVariables false

theorem or_hi (s y : Nat) (hs : s < 4294967296) (hy : y < 4294967296) : bits .or .i64 (s : Int) (wrap64 ((y : Int) * 4294967296)) = wrap64 ((y * 4294967296 + s : Nat) : Int) := by
  have e1 : (BitVec.ofInt 64 (wrap64 ((y : Int) * 4294967296))).toNat = y * 4294967296 := by
    rw [BitVec.toNat_ofInt]
    unfold wrap64
    omega
  show IntKind.i64.wrap ((BitVec.ofInt 64 (s : Int) ||| BitVec.ofInt 64 (wrap64 ((y : Int) * 4294967296))).toNat : Int) = _
  rw [BitVec.toNat_or, ofInt_u64 s (by omega), e1, Nat.or_comm, nat_join 32 (y * 4294967296) s (by omega) (by omega)]
  rw [IntKind.wrap_i64]
  unfold wrap64
  omega
theorem or_lo (y : Nat) (hy : y < 4294967296) : bits .or .i64 0 (y : Int) = (y : Int) := by
  show IntKind.i64.wrap ((BitVec.ofInt 64 (0 : Int) ||| BitVec.ofInt 64 (y : Int)).toNat : Int) = _
  rw [BitVec.toNat_or, ofInt_u64 y (by omega)]
  simp
  rw [IntKind.wrap_i64]
  omega
theorem take_one (l : List Nat) (x : Nat) (h : l[0]? = some x) : Num.val (l.take 1) = x := by
  have := val_take_succ l 0 x h
  simpa [Num.val] using this
theorem take_two (l : List Nat) (x y : Nat) (h : l[0]? = some x) (h' : l[1]? = some y) : y * 4294967296 + x = Num.val (l.take 2) := by
  have h1 := val_take_succ l 1 y h'
  rw [take_one l x h, Nat.pow_one, Num.K_eq] at h1
  rw [show 2 = 1 + 1 from rfl, h1]
  omega
theorem wrap_id (m : Int) (h1 : -9223372036854775808 ≤ m) (h2 : m < 9223372036854775808) : wrap64 m = m := by unfold wrap64; omega
theorem neg_wrap (m : Nat) (h : m ≤ 9223372036854775808) : wrap64 (-(wrap64 (m : Int))) = -(m : Int) := by
  rcases Nat.lt_or_ge m 9223372036854775808 with h1 | h1
  · rw [wrap_id (m : Int) (by omega) (by omega), wrap_id (-(m : Int)) (by omega) (by omega)]
  · have e : (m : Int) = 9223372036854775808 := by omega
    have e2 : wrap64 (9223372036854775808 : Int) = -9223372036854775808 := by unfold wrap64; omega
    have e3 : wrap64 (-(-9223372036854775808 : Int)) = -9223372036854775808 := by unfold wrap64; omega
    rw [e, e2, e3]
def SmallEnd (n : Int) (b : Bool) (w : World) (e : Ending) (w' : World) : Prop := e = .returned (.tuple #[.int .i64 n, .bool b]) ∧ Below w.heap.size w w'
end Go.Proofs.YtfdildganfjahaaGreatDoor
/-
  The walks of garmentref02.Text and Small.
-/
namespace Go.Proofs.YtfdildganfjahaaGreatDoor
open Go.RowKit
attribute [local go_sem ↓] Go.wp_at_zero Go.wp_at_succ
set_option linter.unusedVariables false

theorem neg_of {z : Int} {b : Bool} {m : Nat} (hz : z = sgn b m) (e : b = true) (h0 : m = 0 → b = false) : z < 0 := by
  subst e
  have : m ≠ 0 := fun e => absurd (h0 e) (by simp)
  rw [hz, sgn_true]
  omega
set_option maxRecDepth 20000 in
set_option maxHeartbeats 1000000 in
theorem ritext_x {w : World} {b : Bool} {A : Option Addr} {n c k : Nat} {z : Int} (h : Iv w (.agg #[.bool b, .slice A n c]) z k) (hk : k ≤ 900) (t u : ByteArray) (hu : u.data.toList = Lib.decDigits z.natAbs) (ht : t.data.toList = zdec z) : Calls Tryz.prog 70 #[.agg #[.bool b, .slice A n c]] w (StrEnd t w) := by
  have HU := Lib.hid hu
  have HT := Lib.hid ht
  clear hu ht
  have B0 := below_a1 w (.cells #[.bool b, .slice A n c] 25)
  have h := h.below B0
  have ka := (Bx.new w (w.heap.size) (by simp) (.bool b) (.slice A n c))
  go_enter Tryz.func70, Tryz.ntmps70
  have ka0 := ka.1
  have ka1 := ka.2
  go_wp2_with fail
  refine (rnorm_i h (by omega)).mono ?_
  clear ka0 ka1
  rintro e w1 ⟨v1, rfl, z1, bb⟩
  have h := h.below bb
  have ka := ka.below bb
  have B0 := B0.trans (bb.mono B0.size)
  clear bb
  obtain ⟨b1, A1, n1, c1, rfl, z1⟩ := z1.cells
  obtain ⟨m, zp, hz, h0⟩ := z1.parts
  clear z1
  have hm : z.natAbs = m := by rw [hz]; exact sgn_abs b1 m
  have HU' : Hid (u.data.toList = Lib.decDigits m) := by show _ = _; rw [HU.out, hm]
  have hus := text_size zp.nm.lt HU'.out
  have hneg : b1 = true → (⟨#[45]⟩ : ByteArray) ++ u = t := fun e => bytes_ext (by rw [HT.out, zdec, if_pos (neg_of hz e h0), ← HU.out]; simp)
  have hpos : b1 = false → u = t := fun e => bytes_ext (by rw [HT.out, zdec, if_neg (by rw [hz, e, sgn_false]; omega), ← HU.out])
  have HN := Lib.hid hneg
  have HP := Lib.hid hpos
  clear hneg hpos hm hz h0
  have zp := zp.below (below_alloc w1 (.cells #[.bool b1, .slice A1 n1 c1] 25))
  have kx := Bx.new w1 w1.heap.size rfl (.bool b1) (.slice A1 n1 c1)
  have B0 := B0.trans ((below_alloc w1 (.cells #[.bool b1, .slice A1 n1 c1] 25)).mono B0.size)
  cases b1
  · have kx0 := kx.1
    have kx1 := kx.2
    go_wp2_with fail
    refine (rtext_n zp.nm (by omega) u HU'.out).mono ?_
    rintro e w2 ⟨rfl, bb⟩
    go_wp2
    go_ret
    rw [← HP.out (by first | rfl | trivial)]
    exact ⟨rfl, B0.trans (bb.mono B0.size)⟩
  · have kx0 := kx.1
    have kx1 := kx.2
    go_wp2_with fail
    refine (rtext_n zp.nm (by omega) u HU'.out).mono ?_
    rintro e w2 ⟨rfl, bb⟩
    go_wp2
    go_ret
    rw [← HN.out (by first | rfl | trivial)]
    exact ⟨rfl, B0.trans (bb.mono B0.size)⟩
theorem ritext_i {w : World} {v : Value} {z : Int} {k : Nat} (h : Iv w v z k) (hk : k ≤ 900) (t : ByteArray) (ht : t.data.toList = zdec z) : Calls Tryz.prog 70 #[v] w (StrEnd t w) := by
  have h' := h
  obtain ⟨b, A, n, d, m, rfl, _⟩ := h'
  exact ritext_x h hk t ⟨(Lib.decDigits z.natAbs).toArray⟩ rfl ht
end Go.Proofs.YtfdildganfjahaaGreatDoor
/-
  The walks of integer.Parse.
-/
namespace Go.Proofs.YtfdildganfjahaaGreatDoor
open Go.RowKit
attribute [local go_sem ↓] Go.wp_at_zero Go.wp_at_succ
set_option linter.unusedVariables false

def zval (neg : Bool) (d : List UInt8) : Int := sgn neg (decVal d)
/-- A string that is no integer: the error, and the zero value. -/
def PErr (code : Int) (w : World) (e : Ending) (w' : World) : Prop := e = .returned (.tuple #[.agg #[.bool false, .slice none 0 0], .int .i64 code]) ∧ Below w.heap.size w w'
def PInt (z : Int) (w : World) (e : Ending) (w' : World) : Prop := ∃ v, e = .returned (.tuple #[v, .int .i64 0]) ∧ Iz w' v z 200 ∧ Below w.heap.size w w'
/-- The string without its minus sign. -/
def digs (s : ByteArray) : ByteArray := ⟨(Lib.trimPrefix s.data.toList [45]).toArray⟩
def isNeg (s : ByteArray) : Bool := Lib.hasPrefix s.data.toList [45]
theorem cut_i (s : ByteArray) (w : World) (d : ByteArray) (b : Bool) (hd : d = digs s) (hb : b = isNeg s) : Calls Tryz.prog 107 #[.string s, .string ⟨#[45]⟩] w fun e w' => e = .returned (.tuple #[.string d, .bool b]) ∧ w = w' := by
  subst hd hb
  exact (Tryz.strings_CutPrefix s ⟨#[45]⟩ w).mono fun _ _ ⟨h, e⟩ => ⟨h, e.symm⟩
set_option maxRecDepth 20000 in
set_option maxHeartbeats 1000000 in
theorem iparse_long (s d : ByteArray) (b : Bool) (hd : d = digs s) (hb : b = isNeg s) (w : World) (h : 200 < d.size) (hs : d.size ≤ 9223372036854775807) : Calls Tryz.prog 73 #[.string s] w (PErr 5 w) := by
  have Hd := Lib.hid hd
  have Hb := Lib.hid hb
  clear hd hb
  have B0 := below_a1 w (.cells #[.bool false, .slice none 0 0] 25)
  have kr := (Rx.new w (w.heap.size) (by simp))
  go_enter Tryz.func73, Tryz.ntmps73
  have kr0 := kr.1
  have kr1 := kr.2.1
  have kr2 := kr.2.2.1
  have kr3 := kr.2.2.2
  go_wp2_with fail
  refine (cut_i s _ d b Hd.out Hb.out).mono ?_
  clear kr0 kr1 kr2 kr3
  rintro e w' ⟨rfl, rfl⟩
  have kr0 := kr.1
  have kr1 := kr.2.1
  have kr2 := kr.2.2.1
  have kr3 := kr.2.2.2
  go_wp2_with fail
  refine (parse_long' d _ hs h).mono ?_
  clear kr0 kr1 kr2 kr3
  rintro e w' ⟨rfl, rfl⟩
  have kr0 := kr.1
  have kr1 := kr.2.1
  have kr2 := kr.2.2.1
  have kr3 := kr.2.2.2
  go_wp2
  refine bodyPost_ret (v := .tuple #[.agg #[.bool false, .slice none 0 0], .int .i64 5]) (by simp [results, Tryz.results73, go_sem, kr0, kr1]) rfl ⟨rfl, by first | exact B0 | exact below_ret B0 (by omega) _ _⟩
set_option maxRecDepth 20000 in
set_option maxHeartbeats 1000000 in
theorem iparse_bad (s d : ByteArray) (b : Bool) (hd : d = digs s) (hb : b = isNeg s) (w : World) (h : d.size ≤ 200) (hn : isNum d.data.toList = false) : Calls Tryz.prog 73 #[.string s] w (PErr 2 w) := by
  have Hn := Lib.hid hn
  clear hn
  have Hd := Lib.hid hd
  have Hb := Lib.hid hb
  clear hd hb
  have B0 := below_a1 w (.cells #[.bool false, .slice none 0 0] 25)
  have kr := (Rx.new w (w.heap.size) (by simp))
  go_enter Tryz.func73, Tryz.ntmps73
  have kr0 := kr.1
  have kr1 := kr.2.1
  have kr2 := kr.2.2.1
  have kr3 := kr.2.2.2
  go_wp2_with fail
  refine (cut_i s _ d b Hd.out Hb.out).mono ?_
  clear kr0 kr1 kr2 kr3
  rintro e w' ⟨rfl, rfl⟩
  have kr0 := kr.1
  have kr1 := kr.2.1
  have kr2 := kr.2.2.1
  have kr3 := kr.2.2.2
  go_wp2_with fail
  refine (parse_bad d _ h Hn.out).mono ?_
  clear kr0 kr1 kr2 kr3
  rintro e w' ⟨rfl, rfl⟩
  have kr0 := kr.1
  have kr1 := kr.2.1
  have kr2 := kr.2.2.1
  have kr3 := kr.2.2.2
  go_wp2
  refine bodyPost_ret (v := .tuple #[.agg #[.bool false, .slice none 0 0], .int .i64 2]) (by simp [results, Tryz.results73, go_sem, kr0, kr1]) rfl ⟨rfl, by first | exact B0 | exact below_ret B0 (by omega) _ _⟩
set_option maxRecDepth 20000 in
set_option maxHeartbeats 1000000 in
theorem iparse_p (s d : ByteArray) (hd : d = digs s) (hb : false = isNeg s) (w : World) (h : d.size ≤ 200) (hn : isNum d.data.toList = true)  : Calls Tryz.prog 73 #[.string s] w (PInt (sgn false (decVal d.data.toList)) w) := by
  have Hn := Lib.hid hn
  clear hn
  have Hd := Lib.hid hd
  have Hb := Lib.hid hb
  clear hd hb
  have B0 := below_a1 w (.cells #[.bool false, .slice none 0 0] 25)
  have kr := (Rx.new w (w.heap.size) (by simp))
  go_enter Tryz.func73, Tryz.ntmps73
  have kr0 := kr.1
  have kr1 := kr.2.1
  have kr2 := kr.2.2.1
  have kr3 := kr.2.2.2
  go_wp2_with fail
  refine (cut_i s _ d false Hd.out Hb.out).mono ?_
  clear kr0 kr1 kr2 kr3
  rintro e w' ⟨rfl, rfl⟩
  have kr0 := kr.1
  have kr1 := kr.2.1
  have kr2 := kr.2.2.1
  have kr3 := kr.2.2.2
  go_wp2_with fail
  refine (parse_n d _ h Hn.out).mono ?_
  clear kr0 kr1 kr2 kr3
  rintro e w2 ⟨v1, rfl, z1, bb⟩
  have kr := kr.below bb
  have B0 := B0.trans (bb.mono B0.size)
  clear bb
  obtain ⟨A2, n2, c2, rfl, _, _⟩ := z1.nm.form
  have kr0 := kr.1
  have kr1 := kr.2.1
  have kr2 := kr.2.2.1
  have kr3 := kr.2.2.2
  go_wp2_with fail
  refine (signed_i false z1 _ rfl).mono ?_
  clear kr0 kr1 kr2 kr3
  rintro e w3 ⟨vr, rfl, zr, bb⟩
  have kr := kr.below bb
  have z1 := z1.below bb
  have B0 := B0.trans (bb.mono B0.size)
  clear bb
  obtain ⟨br, Ar, nr, cr, rfl, zr⟩ := zr.cells
  have kr0 := kr.1
  have kr1 := kr.2.1
  have kr2 := kr.2.2.1
  have kr3 := kr.2.2.2
  go_wp2
  refine bodyPost_ret (v := .tuple #[.agg #[.bool br, .slice Ar nr cr], .int .i64 0]) (by simp [results, Tryz.results73, go_sem, kr0, kr1]) rfl ⟨_, rfl, zr.ret kr _ _, below_ret B0 (by omega) _ _⟩
set_option maxRecDepth 20000 in
set_option maxHeartbeats 1000000 in
theorem iparse_m (s d : ByteArray) (hd : d = digs s) (hb : true = isNeg s) (w : World) (h : d.size ≤ 200) (hn : isNum d.data.toList = true) (h0 : 0 < decVal d.data.toList) : Calls Tryz.prog 73 #[.string s] w (PInt (sgn true (decVal d.data.toList)) w) := by
  have Hn := Lib.hid hn
  clear hn
  have H0 := Lib.hid h0
  clear h0
  have Hd := Lib.hid hd
  have Hb := Lib.hid hb
  clear hd hb
  have B0 := below_a1 w (.cells #[.bool false, .slice none 0 0] 25)
  have kr := (Rx.new w (w.heap.size) (by simp))
  go_enter Tryz.func73, Tryz.ntmps73
  have kr0 := kr.1
  have kr1 := kr.2.1
  have kr2 := kr.2.2.1
  have kr3 := kr.2.2.2
  go_wp2_with fail
  refine (cut_i s _ d true Hd.out Hb.out).mono ?_
  clear kr0 kr1 kr2 kr3
  rintro e w' ⟨rfl, rfl⟩
  have kr0 := kr.1
  have kr1 := kr.2.1
  have kr2 := kr.2.2.1
  have kr3 := kr.2.2.2
  go_wp2_with fail
  refine (parse_n d _ h Hn.out).mono ?_
  clear kr0 kr1 kr2 kr3
  rintro e w2 ⟨v1, rfl, z1, bb⟩
  have kr := kr.below bb
  have B0 := B0.trans (bb.mono B0.size)
  clear bb
  obtain ⟨A2, n2, c2, rfl, _, _⟩ := z1.nm.form
  have hn2 : 0 < n2 := by have h1 := z1.len0.1.1; have h2 := H0.out; omega
  have kr0 := kr.1
  have kr1 := kr.2.1
  have kr2 := kr.2.2.1
  have kr3 := kr.2.2.2
  go_wp2_with fail
  refine (signed_i true z1 _ rfl).mono ?_
  clear kr0 kr1 kr2 kr3
  rintro e w3 ⟨vr, rfl, zr, bb⟩
  have kr := kr.below bb
  have z1 := z1.below bb
  have B0 := B0.trans (bb.mono B0.size)
  clear bb
  obtain ⟨br, Ar, nr, cr, rfl, zr⟩ := zr.cells
  have kr0 := kr.1
  have kr1 := kr.2.1
  have kr2 := kr.2.2.1
  have kr3 := kr.2.2.2
  go_wp2
  refine bodyPost_ret (v := .tuple #[.agg #[.bool br, .slice Ar nr cr], .int .i64 0]) (by simp [results, Tryz.results73, go_sem, kr0, kr1]) rfl ⟨_, rfl, zr.ret kr _ _, below_ret B0 (by omega) _ _⟩
set_option maxRecDepth 20000 in
set_option maxHeartbeats 1000000 in
theorem iparse_z (s d : ByteArray) (hd : d = digs s) (hb : true = isNeg s) (w : World) (h : d.size ≤ 200) (hn : isNum d.data.toList = true) (h0 : decVal d.data.toList = 0) : Calls Tryz.prog 73 #[.string s] w (PErr 2 w) := by
  have Hn := Lib.hid hn
  clear hn
  have H0 := Lib.hid h0
  clear h0
  have Hd := Lib.hid hd
  have Hb := Lib.hid hb
  clear hd hb
  have B0 := below_a1 w (.cells #[.bool false, .slice none 0 0] 25)
  have kr := (Rx.new w (w.heap.size) (by simp))
  go_enter Tryz.func73, Tryz.ntmps73
  have kr0 := kr.1
  have kr1 := kr.2.1
  have kr2 := kr.2.2.1
  have kr3 := kr.2.2.2
  go_wp2_with fail
  refine (cut_i s _ d true Hd.out Hb.out).mono ?_
  clear kr0 kr1 kr2 kr3
  rintro e w' ⟨rfl, rfl⟩
  have kr0 := kr.1
  have kr1 := kr.2.1
  have kr2 := kr.2.2.1
  have kr3 := kr.2.2.2
  go_wp2_with fail
  refine (parse_n d _ h Hn.out).mono ?_
  clear kr0 kr1 kr2 kr3
  rintro e w2 ⟨v1, rfl, z1, bb⟩
  have kr := kr.below bb
  have B0 := B0.trans (bb.mono B0.size)
  clear bb
  obtain ⟨A2, n2, c2, rfl, _, _⟩ := z1.nm.form
  have hn2 : n2 = 0 := z1.len0.1.2 H0.out
  subst hn2
  have kr0 := kr.1
  have kr1 := kr.2.1
  have kr2 := kr.2.2.1
  have kr3 := kr.2.2.2
  go_wp2
  refine bodyPost_ret (v := .tuple #[.agg #[.bool false, .slice none 0 0], .int .i64 2]) (by simp [results, Tryz.results73, go_sem, kr0, kr1]) rfl ⟨rfl, by first | exact B0 | exact below_ret B0 (by omega) _ _⟩
end Go.Proofs.YtfdildganfjahaaGreatDoor
/-
  The walk of garmentref02.Parse.
-/
namespace Go.Proofs.YtfdildganfjahaaGreatDoor
open Go.RowKit
attribute [local go_sem ↓] Go.wp_at_zero Go.wp_at_succ
set_option linter.unusedVariables false

theorem byteList (s : ByteArray) : s.toList = s.data.toList := ByteArray.toList_eq s
theorem byteList_nil {s : ByteArray} (h : s.data.toList.length = 0) : s.toList = [] := by rw [byteList]; exact List.eq_nil_of_length_eq_zero h
theorem nonempty_toList {s : ByteArray} (h : 0 < s.size) : s.toList.isEmpty = false := by
  rw [byteList]
  cases e : s.data.toList with
  | nil => have : s.data.toList.length = s.size := by simp
           rw [e] at this; simp at this; omega
  | cons => rfl
set_option maxRecDepth 20000 in
set_option maxHeartbeats 1000000 in
theorem riparse_bad_e (s : ByteArray) (w : World) (hsz : s.size ≤ 9223372036854775807) (hs0 : s.size = 0) (h : s.size ≤ 200) (hn : isNum s.data.toList = false) : Calls Tryz.prog 79 #[.string s] w (PErr 2 w) := by
  have Hn := Lib.hid hn
  clear hn
  have hs1 : s.toList = [] := byteList_nil (by simpa using hs0)
  have hs2 : s.toList.isEmpty = true := by rw [hs1]; rfl
  have B0 := below_a1 w (.cells #[.bool false, .slice none 0 0] 25)
  have kr := (Rx.new w (w.heap.size) (by simp))
  go_enter Tryz.func79, Tryz.ntmps79
  have kr0 := kr.1
  have kr1 := kr.2.1
  have kr2 := kr.2.2.1
  have kr3 := kr.2.2.2
  go_wp2_with fail
  refine (rparse_bad s _ h Hn.out).mono ?_
  clear kr0 kr1 kr2 kr3
  rintro e w' ⟨rfl, rfl⟩
  have kr0 := kr.1
  have kr1 := kr.2.1
  have kr2 := kr.2.2.1
  have kr3 := kr.2.2.2
  go_wp2
  refine bodyPost_ret (v := .tuple #[.agg #[.bool false, .slice none 0 0], .int .i64 2]) (by simp [results, Tryz.results79, go_sem, kr0, kr1]) rfl ⟨rfl, by first | exact B0 | exact below_ret B0 (by omega) _ _⟩
set_option maxRecDepth 20000 in
set_option maxHeartbeats 1000000 in
theorem riparse_long_n (s : ByteArray) (w : World) (hsz : s.size ≤ 9223372036854775807) (hs0 : 0 < s.size) (hc : (s[0].toNat : Int) = 45) (hs : (s.extract 1 s.size).size ≤ 1000000) (h : 200 < (s.extract 1 s.size).size) : Calls Tryz.prog 79 #[.string s] w (PErr 5 w) := by
  have hs2 : s.toList.isEmpty = false := nonempty_toList hs0
  have e2 : ((s[0].toNat : Int) == 45) = true := by simpa using hc
  have B0 := below_a1 w (.cells #[.bool false, .slice none 0 0] 25)
  have kr := (Rx.new w (w.heap.size) (by simp))
  go_enter Tryz.func79, Tryz.ntmps79
  have kr0 := kr.1
  have kr1 := kr.2.1
  have kr2 := kr.2.2.1
  have kr3 := kr.2.2.2
  go_wp2_with fail
  refine (rparse_long (s.extract 1 s.size) _ hs h).mono ?_
  clear kr0 kr1 kr2 kr3
  rintro e w' ⟨rfl, rfl⟩
  have kr0 := kr.1
  have kr1 := kr.2.1
  have kr2 := kr.2.2.1
  have kr3 := kr.2.2.2
  go_wp2
  refine bodyPost_ret (v := .tuple #[.agg #[.bool false, .slice none 0 0], .int .i64 5]) (by simp [results, Tryz.results79, go_sem, kr0, kr1]) rfl ⟨rfl, by first | exact B0 | exact below_ret B0 (by omega) _ _⟩
set_option maxRecDepth 20000 in
set_option maxHeartbeats 1000000 in
theorem riparse_bad_n (s : ByteArray) (w : World) (hsz : s.size ≤ 9223372036854775807) (hs0 : 0 < s.size) (hc : (s[0].toNat : Int) = 45) (h : (s.extract 1 s.size).size ≤ 200) (hn : isNum (s.extract 1 s.size).data.toList = false) : Calls Tryz.prog 79 #[.string s] w (PErr 2 w) := by
  have Hn := Lib.hid hn
  clear hn
  have hs2 : s.toList.isEmpty = false := nonempty_toList hs0
  have e2 : ((s[0].toNat : Int) == 45) = true := by simpa using hc
  have B0 := below_a1 w (.cells #[.bool false, .slice none 0 0] 25)
  have kr := (Rx.new w (w.heap.size) (by simp))
  go_enter Tryz.func79, Tryz.ntmps79
  have kr0 := kr.1
  have kr1 := kr.2.1
  have kr2 := kr.2.2.1
  have kr3 := kr.2.2.2
  go_wp2_with fail
  refine (rparse_bad (s.extract 1 s.size) _ h Hn.out).mono ?_
  clear kr0 kr1 kr2 kr3
  rintro e w' ⟨rfl, rfl⟩
  have kr0 := kr.1
  have kr1 := kr.2.1
  have kr2 := kr.2.2.1
  have kr3 := kr.2.2.2
  go_wp2
  refine bodyPost_ret (v := .tuple #[.agg #[.bool false, .slice none 0 0], .int .i64 2]) (by simp [results, Tryz.results79, go_sem, kr0, kr1]) rfl ⟨rfl, by first | exact B0 | exact below_ret B0 (by omega) _ _⟩
set_option maxRecDepth 20000 in
set_option maxHeartbeats 1000000 in
theorem riparse_long_p (s : ByteArray) (w : World) (hsz : s.size ≤ 9223372036854775807) (hs0 : 0 < s.size) (hc : (s[0].toNat : Int) ≠ 45) (hs : s.size ≤ 1000000) (h : 200 < s.size) : Calls Tryz.prog 79 #[.string s] w (PErr 5 w) := by
  have hs2 : s.toList.isEmpty = false := nonempty_toList hs0
  have e2 : ((s[0].toNat : Int) == 45) = false := by simpa using hc
  have B0 := below_a1 w (.cells #[.bool false, .slice none 0 0] 25)
  have kr := (Rx.new w (w.heap.size) (by simp))
  go_enter Tryz.func79, Tryz.ntmps79
  have kr0 := kr.1
  have kr1 := kr.2.1
  have kr2 := kr.2.2.1
  have kr3 := kr.2.2.2
  go_wp2_with fail
  refine (rparse_long s _ hs h).mono ?_
  clear kr0 kr1 kr2 kr3
  rintro e w' ⟨rfl, rfl⟩
  have kr0 := kr.1
  have kr1 := kr.2.1
  have kr2 := kr.2.2.1
  have kr3 := kr.2.2.2
  go_wp2
  refine bodyPost_ret (v := .tuple #[.agg #[.bool false, .slice none 0 0], .int .i64 5]) (by simp [results, Tryz.results79, go_sem, kr0, kr1]) rfl ⟨rfl, by first | exact B0 | exact below_ret B0 (by omega) _ _⟩
set_option maxRecDepth 20000 in
set_option maxHeartbeats 1000000 in
theorem riparse_bad_p (s : ByteArray) (w : World) (hsz : s.size ≤ 9223372036854775807) (hs0 : 0 < s.size) (hc : (s[0].toNat : Int) ≠ 45) (h : s.size ≤ 200) (hn : isNum s.data.toList = false) : Calls Tryz.prog 79 #[.string s] w (PErr 2 w) := by
  have Hn := Lib.hid hn
  clear hn
  have hs2 : s.toList.isEmpty = false := nonempty_toList hs0
  have e2 : ((s[0].toNat : Int) == 45) = false := by simpa using hc
  have B0 := below_a1 w (.cells #[.bool false, .slice none 0 0] 25)
  have kr := (Rx.new w (w.heap.size) (by simp))
  go_enter Tryz.func79, Tryz.ntmps79
  have kr0 := kr.1
  have kr1 := kr.2.1
  have kr2 := kr.2.2.1
  have kr3 := kr.2.2.2
  go_wp2_with fail
  refine (rparse_bad s _ h Hn.out).mono ?_
  clear kr0 kr1 kr2 kr3
  rintro e w' ⟨rfl, rfl⟩
  have kr0 := kr.1
  have kr1 := kr.2.1
  have kr2 := kr.2.2.1
  have kr3 := kr.2.2.2
  go_wp2
  refine bodyPost_ret (v := .tuple #[.agg #[.bool false, .slice none 0 0], .int .i64 2]) (by simp [results, Tryz.results79, go_sem, kr0, kr1]) rfl ⟨rfl, by first | exact B0 | exact below_ret B0 (by omega) _ _⟩
set_option maxRecDepth 20000 in
set_option maxHeartbeats 1000000 in
theorem riparse_p (s : ByteArray) (w : World) (hsz : s.size ≤ 9223372036854775807) (hs0 : 0 < s.size) (hc : (s[0].toNat : Int) ≠ 45) (h : s.size ≤ 200) (hn : isNum s.data.toList = true)  : Calls Tryz.prog 79 #[.string s] w (PInt (sgn false (decVal s.data.toList)) w) := by
  have Hn := Lib.hid hn
  clear hn
  have hs2 : s.toList.isEmpty = false := nonempty_toList hs0
  have e2 : ((s[0].toNat : Int) == 45) = false := by simpa using hc
  have B0 := below_a1 w (.cells #[.bool false, .slice none 0 0] 25)
  have kr := (Rx.new w (w.heap.size) (by simp))
  go_enter Tryz.func79, Tryz.ntmps79
  have kr0 := kr.1
  have kr1 := kr.2.1
  have kr2 := kr.2.2.1
  have kr3 := kr.2.2.2
  go_wp2_with fail
  refine (rparse_n s _ h Hn.out).mono ?_
  clear kr0 kr1 kr2 kr3
  rintro e w1 ⟨v1, rfl, z1, bb⟩
  have kr := kr.below bb
  have B0 := B0.trans (bb.mono B0.size)
  clear bb
  have hm1 := z1.nm
  have kr0 := kr.1
  have kr1 := kr.2.1
  have kr2 := kr.2.2.1
  have kr3 := kr.2.2.2
  go_wp2_with fail
  refine (make1_i false hm1 (by omega) _ rfl).mono ?_
  clear kr0 kr1 kr2 kr3
  rintro e w2 ⟨vr, rfl, zr, bb⟩
  have kr := kr.below bb
  have z1 := z1.below bb
  have hm1 := hm1.below bb
  have B0 := B0.trans (bb.mono B0.size)
  clear bb
  obtain ⟨br, Ar, nr, cr, rfl, zr⟩ := zr.cells
  have kr0 := kr.1
  have kr1 := kr.2.1
  have kr2 := kr.2.2.1
  have kr3 := kr.2.2.2
  go_wp2
  refine bodyPost_ret (v := .tuple #[.agg #[.bool br, .slice Ar nr cr], .int .i64 0]) (by simp [results, Tryz.results79, go_sem, kr0, kr1]) rfl ⟨_, rfl, zr.ret kr _ _, below_ret B0 (by omega) _ _⟩
set_option maxRecDepth 20000 in
set_option maxHeartbeats 1000000 in
theorem riparse_m (s : ByteArray) (w : World) (hsz : s.size ≤ 9223372036854775807) (hs0 : 0 < s.size) (hc : (s[0].toNat : Int) = 45) (h : (s.extract 1 s.size).size ≤ 200) (hn : isNum (s.extract 1 s.size).data.toList = true) (h0 : 0 < decVal (s.extract 1 s.size).data.toList) : Calls Tryz.prog 79 #[.string s] w (PInt (sgn true (decVal (s.extract 1 s.size).data.toList)) w) := by
  have Hn := Lib.hid hn
  clear hn
  have H0 := Lib.hid h0
  clear h0
  have hs2 : s.toList.isEmpty = false := nonempty_toList hs0
  have e2 : ((s[0].toNat : Int) == 45) = true := by simpa using hc
  have B0 := below_a1 w (.cells #[.bool false, .slice none 0 0] 25)
  have kr := (Rx.new w (w.heap.size) (by simp))
  go_enter Tryz.func79, Tryz.ntmps79
  have kr0 := kr.1
  have kr1 := kr.2.1
  have kr2 := kr.2.2.1
  have kr3 := kr.2.2.2
  go_wp2_with fail
  refine (rparse_n (s.extract 1 s.size) _ h Hn.out).mono ?_
  clear kr0 kr1 kr2 kr3
  rintro e w1 ⟨v1, rfl, z1, bb⟩
  have kr := kr.below bb
  have B0 := B0.trans (bb.mono B0.size)
  clear bb
  have hm1 := z1.nm
  have kr0 := kr.1
  have kr1 := kr.2.1
  have kr2 := kr.2.2.1
  have kr3 := kr.2.2.2
  go_wp2_with fail
  refine (rnorm_n hm1 (by omega)).mono ?_
  clear kr0 kr1 kr2 kr3
  rintro e w2 ⟨v2, rfl, z2, bb⟩
  have kr := kr.below bb
  have z1 := z1.below bb
  have hm1 := hm1.below bb
  have B0 := B0.trans (bb.mono B0.size)
  clear bb
  have z2 := z2.nz
  obtain ⟨A2, n2, c2, rfl, _, _⟩ := z2.nm.form
  have hn2 : 0 < n2 := by have h1 := z2.len0.1.1; have h2 := H0.out; omega
  have kr0 := kr.1
  have kr1 := kr.2.1
  have kr2 := kr.2.2.1
  have kr3 := kr.2.2.2
  go_wp2_with fail
  refine (make1_i true hm1 (by omega) _ rfl).mono ?_
  clear kr0 kr1 kr2 kr3
  rintro e w3 ⟨vr, rfl, zr, bb⟩
  have kr := kr.below bb
  have z1 := z1.below bb
  have hm1 := hm1.below bb
  have z2 := z2.below bb
  have B0 := B0.trans (bb.mono B0.size)
  clear bb
  obtain ⟨br, Ar, nr, cr, rfl, zr⟩ := zr.cells
  have kr0 := kr.1
  have kr1 := kr.2.1
  have kr2 := kr.2.2.1
  have kr3 := kr.2.2.2
  go_wp2
  refine bodyPost_ret (v := .tuple #[.agg #[.bool br, .slice Ar nr cr], .int .i64 0]) (by simp [results, Tryz.results79, go_sem, kr0, kr1]) rfl ⟨_, rfl, zr.ret kr _ _, below_ret B0 (by omega) _ _⟩
set_option maxRecDepth 20000 in
set_option maxHeartbeats 1000000 in
theorem riparse_z (s : ByteArray) (w : World) (hsz : s.size ≤ 9223372036854775807) (hs0 : 0 < s.size) (hc : (s[0].toNat : Int) = 45) (h : (s.extract 1 s.size).size ≤ 200) (hn : isNum (s.extract 1 s.size).data.toList = true) (h0 : decVal (s.extract 1 s.size).data.toList = 0) : Calls Tryz.prog 79 #[.string s] w (PErr 2 w) := by
  have Hn := Lib.hid hn
  clear hn
  have H0 := Lib.hid h0
  clear h0
  have hs2 : s.toList.isEmpty = false := nonempty_toList hs0
  have e2 : ((s[0].toNat : Int) == 45) = true := by simpa using hc
  have B0 := below_a1 w (.cells #[.bool false, .slice none 0 0] 25)
  have kr := (Rx.new w (w.heap.size) (by simp))
  go_enter Tryz.func79, Tryz.ntmps79
  have kr0 := kr.1
  have kr1 := kr.2.1
  have kr2 := kr.2.2.1
  have kr3 := kr.2.2.2
  go_wp2_with fail
  refine (rparse_n (s.extract 1 s.size) _ h Hn.out).mono ?_
  clear kr0 kr1 kr2 kr3
  rintro e w1 ⟨v1, rfl, z1, bb⟩
  have kr := kr.below bb
  have B0 := B0.trans (bb.mono B0.size)
  clear bb
  have hm1 := z1.nm
  have kr0 := kr.1
  have kr1 := kr.2.1
  have kr2 := kr.2.2.1
  have kr3 := kr.2.2.2
  go_wp2_with fail
  refine (rnorm_n hm1 (by omega)).mono ?_
  clear kr0 kr1 kr2 kr3
  rintro e w2 ⟨v2, rfl, z2, bb⟩
  have kr := kr.below bb
  have z1 := z1.below bb
  have hm1 := hm1.below bb
  have B0 := B0.trans (bb.mono B0.size)
  clear bb
  have z2 := z2.nz
  obtain ⟨A2, n2, c2, rfl, _, _⟩ := z2.nm.form
  have hn2 : n2 = 0 := z2.len0.1.2 H0.out
  subst hn2
  have kr0 := kr.1
  have kr1 := kr.2.1
  have kr2 := kr.2.2.1
  have kr3 := kr.2.2.2
  go_wp2
  refine bodyPost_ret (v := .tuple #[.agg #[.bool false, .slice none 0 0], .int .i64 2]) (by simp [results, Tryz.results79, go_sem, kr0, kr1]) rfl ⟨rfl, by first | exact B0 | exact below_ret B0 (by omega) _ _⟩
end Go.Proofs.YtfdildganfjahaaGreatDoor
/-
  Both Parses at any string of at most 1000 bytes: the same error, or the same integer.
-/
namespace Go.Proofs.YtfdildganfjahaaGreatDoor
open Go.RowKit
set_option linter.unusedVariables false

theorem head_cons (s : ByteArray) (h : 0 < s.size) : ∃ tl, s.data.toList = s[0] :: tl := by
  have h1 := byte_at s 0 h
  cases e : s.data.toList with
  | nil => rw [e] at h1; simp at h1
  | cons x tl =>
    rw [e] at h1
    simp only [List.getElem?_cons_zero, Option.some.injEq] at h1
    exact ⟨tl, by rw [h1]⟩
theorem neg_p (s : ByteArray) (h : 0 < s.size) (hc : (s[0].toNat : Int) ≠ 45) : s = digs s ∧ false = isNeg s := by
  obtain ⟨tl, e⟩ := head_cons s h
  have hb : isNeg s = false := by
    unfold isNeg Lib.hasPrefix
    rw [e]
    simp only [List.isPrefixOf, Bool.and_true]
    rw [beq_eq_false_iff_ne]
    intro h2
    rw [← h2] at hc
    exact hc rfl
  refine ⟨bytes_ext ?_, hb.symm⟩
  unfold digs Lib.trimPrefix
  unfold isNeg at hb
  rw [hb]
  rfl
theorem neg_n (s : ByteArray) (h : 0 < s.size) (hc : (s[0].toNat : Int) = 45) : s.extract 1 s.size = digs s ∧ true = isNeg s := by
  obtain ⟨tl, e⟩ := head_cons s h
  have hb : isNeg s = true := by
    unfold isNeg Lib.hasPrefix
    rw [e]
    simp only [List.isPrefixOf, Bool.and_true]
    rw [beq_iff_eq]
    exact UInt8.toNat_inj.1 (by show 45 = s[0].toNat; omega)
  refine ⟨bytes_ext ?_, hb.symm⟩
  unfold digs Lib.trimPrefix
  unfold isNeg at hb
  rw [hb, Lib.extract_to_end]
  rfl
theorem neg_e (s : ByteArray) (h : s.size = 0) : s = digs s ∧ false = isNeg s := by
  have e : s.data.toList = [] := List.eq_nil_of_length_eq_zero (by simpa using h)
  refine ⟨bytes_ext ?_, ?_⟩
  · unfold digs Lib.trimPrefix Lib.hasPrefix
    rw [e]
    rfl
  · unfold isNeg Lib.hasPrefix
    rw [e]
    rfl
/-- What both Parses answer. -/
def Outs (s : ByteArray) : Prop :=
  (∃ code : Int, ∀ w, Calls Tryz.prog 73 #[.string s] w (PErr code w) ∧ Calls Tryz.prog 79 #[.string s] w (PErr code w)) ∨
  (∃ z : Int, ∀ w, Calls Tryz.prog 73 #[.string s] w (PInt z w) ∧ Calls Tryz.prog 79 #[.string s] w (PInt z w))
theorem parse_outs (s : ByteArray) (hs : s.size ≤ 1000) : Outs s := by
  by_cases h0 : s.size = 0
  · have hd := neg_e s h0
    have hn : isNum s.data.toList = false := by
      rw [List.eq_nil_of_length_eq_zero (l := s.data.toList) (by simpa using h0)]
      rfl
    exact .inl ⟨2, fun w => ⟨iparse_bad s s false hd.1 hd.2 w (by omega) hn, riparse_bad_e s w (by omega) h0 (by omega) hn⟩⟩
  have hp : 0 < s.size := by omega
  by_cases hc : (s[0].toNat : Int) = 45
  · have hd := neg_n s hp hc
    have hl : (s.extract 1 s.size).size ≤ 1000 := by simp; omega
    by_cases h1 : 200 < (s.extract 1 s.size).size
    · exact .inl ⟨5, fun w => ⟨iparse_long s _ true hd.1 hd.2 w h1 (by omega), riparse_long_n s w (by omega) hp hc (by omega) h1⟩⟩
    by_cases hn : isNum (s.extract 1 s.size).data.toList = true
    · rcases Nat.eq_zero_or_pos (decVal (s.extract 1 s.size).data.toList) with hz | hz
      · exact .inl ⟨2, fun w => ⟨iparse_z s _ hd.1 hd.2 w (by omega) hn hz, riparse_z s w (by omega) hp hc (by omega) hn hz⟩⟩
      · exact .inr ⟨_, fun w => ⟨iparse_m s _ hd.1 hd.2 w (by omega) hn hz, riparse_m s w (by omega) hp hc (by omega) hn hz⟩⟩
    · exact .inl ⟨2, fun w => ⟨iparse_bad s _ true hd.1 hd.2 w (by omega) (by simpa using hn), riparse_bad_n s w (by omega) hp hc (by omega) (by simpa using hn)⟩⟩
  · have hd := neg_p s hp hc
    by_cases h1 : 200 < s.size
    · exact .inl ⟨5, fun w => ⟨iparse_long s s false hd.1 hd.2 w h1 (by omega), riparse_long_p s w (by omega) hp hc (by omega) h1⟩⟩
    by_cases hn : isNum s.data.toList = true
    · exact .inr ⟨_, fun w => ⟨iparse_p s s hd.1 hd.2 w (by omega) hn, riparse_p s w (by omega) hp hc (by omega) hn⟩⟩
    · exact .inl ⟨2, fun w => ⟨iparse_bad s s false hd.1 hd.2 w (by omega) (by simpa using hn), riparse_bad_p s w (by omega) hp hc (by omega) (by simpa using hn)⟩⟩
end Go.Proofs.YtfdildganfjahaaGreatDoor
