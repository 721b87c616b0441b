/-
  The walks of integer.signed, Norm, Neg, Add, Sub and Mul.
-/
import Derived.Test.YthcoemkbdllcfaaDoorIntK
import Derived.Test.YthcoemkbdllcfaaDoorRefN
namespace Go.Proofs.YthcoemkbdllcfaaDoor
open Go.RowKit
attribute [local go_sem ↓] Go.wp_at_zero Go.wp_at_succ
set_option linter.unusedVariables false

theorem signed_any (b : Bool) (A : Option Addr) (n c : Nat) (w : World) (hn : n ≤ 9223372036854775807) :
    Calls Tryd.prog 39 #[.bool b, .slice A n c] w fun e w' => e = .returned (.agg #[.bool (b && decide (0 < n)), .slice A n c]) ∧ Below w.heap.size w w' := by
  cases b
  all_goals
    go_enter Tryd.func39, Tryd.ntmps39
    go_wp2
    refine bodyPost_ret (v := .agg #[_, .slice A n c]) (by simp [results, Tryd.results39, go_sem]) rfl ⟨rfl, (Below.refl _ _).alloc (Nat.le_refl _) _⟩
theorem signed_i {w : World} {v : Value} {m k : Nat} (b : Bool) (h : Nz w v m k) (z : Int) (hz : z = sgn b m) : Calls Tryd.prog 39 #[.bool b, v] w (IEnd z k w) := by
  obtain ⟨A, n, c, rfl, hk, hn⟩ := h.nm.form
  exact (signed_any b A n c w hn).mono fun e w' ⟨he, hb⟩ => ⟨_, he, Iz.mk b (h.below hb) z hz, hb⟩
theorem sgn_not (b : Bool) (m : Nat) : sgn (!b) m = -sgn b m := by cases b <;> simp [sgn]
theorem sgn_mul (b c : Bool) (m l : Nat) : sgn (!(b == c)) (m * l) = sgn b m * sgn c l := by cases b <;> cases c <;> simp [sgn, Int.neg_mul, Int.mul_neg]
theorem sgn_add (b : Bool) (m l : Nat) : sgn b (m + l) = sgn b m + sgn b l := by cases b <;> simp [sgn] <;> omega
theorem sgn_ge (b : Bool) (m l : Nat) (h : l ≤ m) : sgn b (m - l) = sgn b m + sgn (!b) l := by cases b <;> simp [sgn] <;> omega
theorem sgn_lt (b : Bool) (m l : Nat) (h : m < l) : sgn (!b) (l - m) = sgn b m + sgn (!b) l := by cases b <;> simp [sgn] <;> omega
set_option maxRecDepth 20000 in
set_option maxHeartbeats 1000000 in
theorem inorm_i {w : World} {v : Value} {z : Int} {k : Nat} (h : Iv w v z k) (hk : k ≤ 900) : Calls Tryd.prog 15 #[v] w (IEnd (z) k w) := by
  obtain ⟨b, A, n, c, m, rfl, hm, hz⟩ := h
  have HZ : Hid (z = sgn b m) := by show _ = _; rw [hz]
  clear hz
  have B0 := below_a2 w (.cells #[.bool b, .slice A n c] 25) (.cells #[.bool false, .slice none 0 0] 25)
  have hm := hm.below B0
  have ka := ((Bx.new w (w.heap.size) (by simp) (.bool b) (.slice A n c)).below (below_alloc (w.alloc (.cells #[.bool b, .slice A n c] 25)) (.cells #[.bool false, .slice none 0 0] 25)))
  have kr := (Rx.new (w.alloc (.cells #[.bool b, .slice A n c] 25)) (w.heap.size + 1) (by simp))
  go_enter Tryd.func15, Tryd.ntmps15
  go_wp2_with fail
  have hm := hm.drew
  have ka := ka.drew
  have kr := kr.drew
  have B0 := b_drew B0
  go_region_held3 (fun w' => w'.cell? ⟨w.heap.size, 0, none⟩ = some (.bool b) ∧ w'.cell? ⟨w.heap.size, 1, none⟩ = some (.slice A n c)) (first | exact ⟨ka.1, ka.2⟩ | exact ⟨(ka.ret (r := w.heap.size + 1) (by omega) _ _).1, (ka.ret (r := w.heap.size + 1) (by omega) _ _).2⟩)
    (first
      | (go_at_call 40; (with_reducible refine (norm_n hm ?_).mono ?_); omega; rintro e w1 ⟨v1, rfl, z1, bb⟩; have hm := hm.below bb; have ka := ka.below bb; have kr := kr.below bb; have B0 := B0.trans (bb.mono B0.size); clear bb)
      | (go_at_call 39; (with_reducible refine (signed_i b z1 _ HZ.out).mono ?_); rintro e w2 ⟨vr, rfl, zr, bb⟩; have ka := ka.below bb; have kr := kr.below bb; have B0 := B0.trans (bb.mono B0.size); clear bb; obtain ⟨br, Ar, nr, cr, rfl, zr⟩ := zr.cells; have kr0 := kr.1; have kr1 := kr.2.1; have kr2 := kr.2.2.1; have kr3 := kr.2.2.2))
  go_wp2
  refine bodyPost_ret (v := .agg #[.bool br, .slice Ar nr cr]) (by simp [results, Tryd.results15, go_sem, kr0, kr1]) rfl ⟨_, rfl, zr.ret kr _ _, below_ret B0 (by omega) _ _⟩
set_option maxRecDepth 20000 in
set_option maxHeartbeats 1000000 in
theorem ineg_i {w : World} {v : Value} {z : Int} {k : Nat} (h : Iv w v z k) (hk : k ≤ 900) : Calls Tryd.prog 19 #[v] w (IEnd (-z) k w) := by
  obtain ⟨b, A, n, c, m, rfl, hm, hz⟩ := h
  have HZ : Hid (-z = sgn (!b) m) := by show _ = _; rw [hz]; exact (sgn_not b m).symm
  clear hz
  have B0 := below_a2 w (.cells #[.bool b, .slice A n c] 25) (.cells #[.bool false, .slice none 0 0] 25)
  have hm := hm.below B0
  have ka := ((Bx.new w (w.heap.size) (by simp) (.bool b) (.slice A n c)).below (below_alloc (w.alloc (.cells #[.bool b, .slice A n c] 25)) (.cells #[.bool false, .slice none 0 0] 25)))
  have kr := (Rx.new (w.alloc (.cells #[.bool b, .slice A n c] 25)) (w.heap.size + 1) (by simp))
  go_enter Tryd.func19, Tryd.ntmps19
  go_wp2_with fail
  have hm := hm.drew
  have ka := ka.drew
  have kr := kr.drew
  have B0 := b_drew B0
  go_region_held3 (fun w' => w'.cell? ⟨w.heap.size, 0, none⟩ = some (.bool b) ∧ w'.cell? ⟨w.heap.size, 1, none⟩ = some (.slice A n c)) (first | exact ⟨ka.1, ka.2⟩ | exact ⟨(ka.ret (r := w.heap.size + 1) (by omega) _ _).1, (ka.ret (r := w.heap.size + 1) (by omega) _ _).2⟩)
    (first
      | (go_at_call 40; (with_reducible refine (norm_n hm ?_).mono ?_); omega; rintro e w1 ⟨v1, rfl, z1, bb⟩; have hm := hm.below bb; have ka := ka.below bb; have kr := kr.below bb; have B0 := B0.trans (bb.mono B0.size); clear bb)
      | (go_at_call 39; (with_reducible refine (signed_i (!b) z1 _ HZ.out).mono ?_); rintro e w2 ⟨vr, rfl, zr, bb⟩; have ka := ka.below bb; have kr := kr.below bb; have B0 := B0.trans (bb.mono B0.size); clear bb; obtain ⟨br, Ar, nr, cr, rfl, zr⟩ := zr.cells; have kr0 := kr.1; have kr1 := kr.2.1; have kr2 := kr.2.2.1; have kr3 := kr.2.2.2))
  go_wp2
  refine bodyPost_ret (v := .agg #[.bool br, .slice Ar nr cr]) (by simp [results, Tryd.results19, go_sem, kr0, kr1]) rfl ⟨_, rfl, zr.ret kr _ _, below_ret B0 (by omega) _ _⟩
set_option maxRecDepth 20000 in
set_option maxHeartbeats 1000000 in
theorem imul_i {w : World} {v u : Value} {z y : Int} {k j : Nat} (h : Iv w v z k) (hu : Iv w u y j) (hk : k ≤ 400) (hj : j ≤ 400) : Calls Tryd.prog 27 #[v, u] w (IEnd (z * y) (k + j) w) := by
  obtain ⟨b, A, n, c, m, rfl, hm, hz⟩ := h
  obtain ⟨b', A', n', c', m', rfl, hm', hy⟩ := hu
  have HZ : Hid (z * y = sgn (!(b == b')) (m * m')) := by show _ = _; rw [hz, hy]; exact (sgn_mul b b' m m').symm
  clear hz hy
  have B0 := below_a3 w (.cells #[.bool b, .slice A n c] 25) (.cells #[.bool b', .slice A' n' c'] 25) (.cells #[.bool false, .slice none 0 0] 25)
  have hm := hm.below B0
  have hm' := hm'.below B0
  have ka := (((Bx.new w (w.heap.size) (by simp) (.bool b) (.slice A n c)).below (below_alloc (w.alloc (.cells #[.bool b, .slice A n c] 25)) (.cells #[.bool b', .slice A' n' c'] 25))).below (below_alloc ((w.alloc (.cells #[.bool b, .slice A n c] 25)).alloc (.cells #[.bool b', .slice A' n' c'] 25)) (.cells #[.bool false, .slice none 0 0] 25)))
  have kb := ((Bx.new (w.alloc (.cells #[.bool b, .slice A n c] 25)) (w.heap.size + 1) (by simp) (.bool b') (.slice A' n' c')).below (below_alloc ((w.alloc (.cells #[.bool b, .slice A n c] 25)).alloc (.cells #[.bool b', .slice A' n' c'] 25)) (.cells #[.bool false, .slice none 0 0] 25)))
  have kr := (Rx.new ((w.alloc (.cells #[.bool b, .slice A n c] 25)).alloc (.cells #[.bool b', .slice A' n' c'] 25)) (w.heap.size + 1 + 1) (by simp))
  go_enter Tryd.func27, Tryd.ntmps27
  go_wp2_with fail
  have hm := hm.drew
  have hm' := hm'.drew
  have ka := ka.drew
  have kb := kb.drew
  have kr := kr.drew
  have B0 := b_drew B0
  go_region_held3 (fun w' => w'.cell? ⟨w.heap.size, 0, none⟩ = some (.bool b) ∧ w'.cell? ⟨w.heap.size, 1, none⟩ = some (.slice A n c) ∧ w'.cell? ⟨w.heap.size + 1, 0, none⟩ = some (.bool b') ∧ w'.cell? ⟨w.heap.size + 1, 1, none⟩ = some (.slice A' n' c')) (first | exact ⟨ka.1, ka.2, kb.1, kb.2⟩ | exact ⟨(ka.ret (r := w.heap.size + 1 + 1) (by omega) _ _).1, (ka.ret (r := w.heap.size + 1 + 1) (by omega) _ _).2, (kb.ret (r := w.heap.size + 1 + 1) (by omega) _ _).1, (kb.ret (r := w.heap.size + 1 + 1) (by omega) _ _).2⟩)
    (first
      | (go_at_call 55; (with_reducible refine (mul_n hm hm' ?_ ?_).mono ?_); omega; omega; rintro e w1 ⟨v1, rfl, z1, bb⟩; have hm := hm.below bb; have hm' := hm'.below bb; have ka := ka.below bb; have kb := kb.below bb; have kr := kr.below bb; have B0 := B0.trans (bb.mono B0.size); clear bb)
      | (go_at_call 39; (with_reducible refine (signed_i (!(b == b')) z1 _ HZ.out).mono ?_); rintro e w2 ⟨vr, rfl, zr, bb⟩; have ka := ka.below bb; have kb := kb.below bb; have kr := kr.below bb; have B0 := B0.trans (bb.mono B0.size); clear bb; obtain ⟨br, Ar, nr, cr, rfl, zr⟩ := zr.cells; have kr0 := kr.1; have kr1 := kr.2.1; have kr2 := kr.2.2.1; have kr3 := kr.2.2.2))
  go_wp2
  refine bodyPost_ret (v := .agg #[.bool br, .slice Ar nr cr]) (by simp [results, Tryd.results27, go_sem, kr0, kr1]) rfl ⟨_, rfl, zr.ret kr _ _, below_ret B0 (by omega) _ _⟩
set_option maxRecDepth 20000 in
set_option maxHeartbeats 1000000 in
theorem iadd_same (b : Bool) {A A' : Option Addr} {n n' c c' m m' k j : Nat} {w : World} (hm : Nm w (.slice A n c) m k) (hm' : Nm w (.slice A' n' c') m' j) (hk : k ≤ 400) (hj : j ≤ 400) : Calls Tryd.prog 21 #[.agg #[.bool b, .slice A n c], .agg #[.bool b, .slice A' n' c']] w (IEnd (sgn b (m + m')) (max k j + 1) w) := by
  cases b
  · have B0 := below_a3 w (.cells #[.bool false, .slice A n c] 25) (.cells #[.bool false, .slice A' n' c'] 25) (.cells #[.bool false, .slice none 0 0] 25)
    have hm := hm.below B0
    have hm' := hm'.below B0
    have ka := (((Bx.new w (w.heap.size) (by simp) (.bool false) (.slice A n c)).below (below_alloc (w.alloc (.cells #[.bool false, .slice A n c] 25)) (.cells #[.bool false, .slice A' n' c'] 25))).below (below_alloc ((w.alloc (.cells #[.bool false, .slice A n c] 25)).alloc (.cells #[.bool false, .slice A' n' c'] 25)) (.cells #[.bool false, .slice none 0 0] 25)))
    have kb := ((Bx.new (w.alloc (.cells #[.bool false, .slice A n c] 25)) (w.heap.size + 1) (by simp) (.bool false) (.slice A' n' c')).below (below_alloc ((w.alloc (.cells #[.bool false, .slice A n c] 25)).alloc (.cells #[.bool false, .slice A' n' c'] 25)) (.cells #[.bool false, .slice none 0 0] 25)))
    have kr := (Rx.new ((w.alloc (.cells #[.bool false, .slice A n c] 25)).alloc (.cells #[.bool false, .slice A' n' c'] 25)) (w.heap.size + 1 + 1) (by simp))
    go_enter Tryd.func21, Tryd.ntmps21
    go_wp2_with fail
    have hm := hm.drew
    have hm' := hm'.drew
    have ka := ka.drew
    have kb := kb.drew
    have kr := kr.drew
    have B0 := b_drew B0
    go_region_held3 (fun w' => w'.cell? ⟨w.heap.size, 0, none⟩ = some (.bool false) ∧ w'.cell? ⟨w.heap.size, 1, none⟩ = some (.slice A n c) ∧ w'.cell? ⟨w.heap.size + 1, 0, none⟩ = some (.bool false) ∧ w'.cell? ⟨w.heap.size + 1, 1, none⟩ = some (.slice A' n' c')) (first | exact ⟨ka.1, ka.2, kb.1, kb.2⟩ | exact ⟨(ka.ret (r := w.heap.size + 1 + 1) (by omega) _ _).1, (ka.ret (r := w.heap.size + 1 + 1) (by omega) _ _).2, (kb.ret (r := w.heap.size + 1 + 1) (by omega) _ _).1, (kb.ret (r := w.heap.size + 1 + 1) (by omega) _ _).2⟩)
      (first
        | (go_at_call 46; (with_reducible refine (add_n hm hm' ?_ ?_).mono ?_); omega; omega; rintro e w1 ⟨v1, rfl, z1, bb⟩; have hm := hm.below bb; have hm' := hm'.below bb; have ka := ka.below bb; have kb := kb.below bb; have kr := kr.below bb; have B0 := B0.trans (bb.mono B0.size); clear bb)
        | (go_at_call 39; (with_reducible refine (signed_i false z1 _ rfl).mono ?_); rintro e w2 ⟨vr, rfl, zr, bb⟩; have ka := ka.below bb; have kb := kb.below bb; have kr := kr.below bb; have B0 := B0.trans (bb.mono B0.size); clear bb; obtain ⟨br, Ar, nr, cr, rfl, zr⟩ := zr.cells; have kr0 := kr.1; have kr1 := kr.2.1; have kr2 := kr.2.2.1; have kr3 := kr.2.2.2))
    go_wp2
    refine bodyPost_ret (v := .agg #[.bool br, .slice Ar nr cr]) (by simp [results, Tryd.results21, go_sem, kr0, kr1]) rfl ⟨_, rfl, zr.ret kr _ _, below_ret B0 (by omega) _ _⟩
  · have B0 := below_a3 w (.cells #[.bool true, .slice A n c] 25) (.cells #[.bool true, .slice A' n' c'] 25) (.cells #[.bool false, .slice none 0 0] 25)
    have hm := hm.below B0
    have hm' := hm'.below B0
    have ka := (((Bx.new w (w.heap.size) (by simp) (.bool true) (.slice A n c)).below (below_alloc (w.alloc (.cells #[.bool true, .slice A n c] 25)) (.cells #[.bool true, .slice A' n' c'] 25))).below (below_alloc ((w.alloc (.cells #[.bool true, .slice A n c] 25)).alloc (.cells #[.bool true, .slice A' n' c'] 25)) (.cells #[.bool false, .slice none 0 0] 25)))
    have kb := ((Bx.new (w.alloc (.cells #[.bool true, .slice A n c] 25)) (w.heap.size + 1) (by simp) (.bool true) (.slice A' n' c')).below (below_alloc ((w.alloc (.cells #[.bool true, .slice A n c] 25)).alloc (.cells #[.bool true, .slice A' n' c'] 25)) (.cells #[.bool false, .slice none 0 0] 25)))
    have kr := (Rx.new ((w.alloc (.cells #[.bool true, .slice A n c] 25)).alloc (.cells #[.bool true, .slice A' n' c'] 25)) (w.heap.size + 1 + 1) (by simp))
    go_enter Tryd.func21, Tryd.ntmps21
    go_wp2_with fail
    have hm := hm.drew
    have hm' := hm'.drew
    have ka := ka.drew
    have kb := kb.drew
    have kr := kr.drew
    have B0 := b_drew B0
    go_region_held3 (fun w' => w'.cell? ⟨w.heap.size, 0, none⟩ = some (.bool true) ∧ w'.cell? ⟨w.heap.size, 1, none⟩ = some (.slice A n c) ∧ w'.cell? ⟨w.heap.size + 1, 0, none⟩ = some (.bool true) ∧ w'.cell? ⟨w.heap.size + 1, 1, none⟩ = some (.slice A' n' c')) (first | exact ⟨ka.1, ka.2, kb.1, kb.2⟩ | exact ⟨(ka.ret (r := w.heap.size + 1 + 1) (by omega) _ _).1, (ka.ret (r := w.heap.size + 1 + 1) (by omega) _ _).2, (kb.ret (r := w.heap.size + 1 + 1) (by omega) _ _).1, (kb.ret (r := w.heap.size + 1 + 1) (by omega) _ _).2⟩)
      (first
        | (go_at_call 46; (with_reducible refine (add_n hm hm' ?_ ?_).mono ?_); omega; omega; rintro e w1 ⟨v1, rfl, z1, bb⟩; have hm := hm.below bb; have hm' := hm'.below bb; have ka := ka.below bb; have kb := kb.below bb; have kr := kr.below bb; have B0 := B0.trans (bb.mono B0.size); clear bb)
        | (go_at_call 39; (with_reducible refine (signed_i true z1 _ rfl).mono ?_); rintro e w2 ⟨vr, rfl, zr, bb⟩; have ka := ka.below bb; have kb := kb.below bb; have kr := kr.below bb; have B0 := B0.trans (bb.mono B0.size); clear bb; obtain ⟨br, Ar, nr, cr, rfl, zr⟩ := zr.cells; have kr0 := kr.1; have kr1 := kr.2.1; have kr2 := kr.2.2.1; have kr3 := kr.2.2.2))
    go_wp2
    refine bodyPost_ret (v := .agg #[.bool br, .slice Ar nr cr]) (by simp [results, Tryd.results21, go_sem, kr0, kr1]) rfl ⟨_, rfl, zr.ret kr _ _, below_ret B0 (by omega) _ _⟩
set_option maxRecDepth 20000 in
set_option maxHeartbeats 1000000 in
theorem iadd_ge (b : Bool) {A A' : Option Addr} {n n' c c' m m' k j : Nat} {w : World} (hm : Nm w (.slice A n c) m k) (hm' : Nm w (.slice A' n' c') m' j) (hk : k ≤ 400) (hj : j ≤ 400) (h : m' ≤ m) : Calls Tryd.prog 21 #[.agg #[.bool b, .slice A n c], .agg #[.bool (!b), .slice A' n' c']] w (IEnd (sgn b m + sgn (!b) m') (max k j + 1) w) := by
  have H := Lib.hid h
  clear h
  cases b
  · have B0 := below_a3 w (.cells #[.bool false, .slice A n c] 25) (.cells #[.bool true, .slice A' n' c'] 25) (.cells #[.bool false, .slice none 0 0] 25)
    have hm := hm.below B0
    have hm' := hm'.below B0
    have ka := (((Bx.new w (w.heap.size) (by simp) (.bool false) (.slice A n c)).below (below_alloc (w.alloc (.cells #[.bool false, .slice A n c] 25)) (.cells #[.bool true, .slice A' n' c'] 25))).below (below_alloc ((w.alloc (.cells #[.bool false, .slice A n c] 25)).alloc (.cells #[.bool true, .slice A' n' c'] 25)) (.cells #[.bool false, .slice none 0 0] 25)))
    have kb := ((Bx.new (w.alloc (.cells #[.bool false, .slice A n c] 25)) (w.heap.size + 1) (by simp) (.bool true) (.slice A' n' c')).below (below_alloc ((w.alloc (.cells #[.bool false, .slice A n c] 25)).alloc (.cells #[.bool true, .slice A' n' c'] 25)) (.cells #[.bool false, .slice none 0 0] 25)))
    have kr := (Rx.new ((w.alloc (.cells #[.bool false, .slice A n c] 25)).alloc (.cells #[.bool true, .slice A' n' c'] 25)) (w.heap.size + 1 + 1) (by simp))
    go_enter Tryd.func21, Tryd.ntmps21
    have ka0 := ka.1
    have ka1 := ka.2
    have kb0 := kb.1
    have kb1 := kb.2
    have kr0 := kr.1
    have kr1 := kr.2.1
    have kr2 := kr.2.2.1
    have kr3 := kr.2.2.2
    go_wp2_with fail
    refine (sub_n hm hm' (by omega) H.out).mono ?_
    clear ka0 ka1 kb0 kb1 kr0 kr1 kr2 kr3
    rintro e w1 ⟨v1, rfl, z1, bb⟩
    have hm := hm.below bb
    have hm' := hm'.below bb
    have ka := ka.below bb
    have kb := kb.below bb
    have kr := kr.below bb
    have B0 := B0.trans (bb.mono B0.size)
    clear bb
    have ka0 := ka.1
    have ka1 := ka.2
    have kb0 := kb.1
    have kb1 := kb.2
    have kr0 := kr.1
    have kr1 := kr.2.1
    have kr2 := kr.2.2.1
    have kr3 := kr.2.2.2
    go_wp2_with fail
    refine (signed_i false (z1.wide' (k' := max k j + 1) (by omega)) _ (sgn_ge false m m' H.out).symm).mono ?_
    clear ka0 ka1 kb0 kb1 kr0 kr1 kr2 kr3
    rintro e w2 ⟨vr, rfl, zr, bb⟩
    have ka := ka.below bb
    have kb := kb.below bb
    have kr := kr.below bb
    have B0 := B0.trans (bb.mono B0.size)
    clear bb
    obtain ⟨br, Ar, nr, cr, rfl, zr⟩ := zr.cells
    have ka0 := ka.1
    have ka1 := ka.2
    have kb0 := kb.1
    have kb1 := kb.2
    have kr0 := kr.1
    have kr1 := kr.2.1
    have kr2 := kr.2.2.1
    have kr3 := kr.2.2.2
    go_wp2
    refine bodyPost_ret (v := .agg #[.bool br, .slice Ar nr cr]) (by simp [results, Tryd.results21, go_sem, kr0, kr1]) rfl ⟨_, rfl, zr.ret kr _ _, below_ret B0 (by omega) _ _⟩
  · have B0 := below_a3 w (.cells #[.bool true, .slice A n c] 25) (.cells #[.bool false, .slice A' n' c'] 25) (.cells #[.bool false, .slice none 0 0] 25)
    have hm := hm.below B0
    have hm' := hm'.below B0
    have ka := (((Bx.new w (w.heap.size) (by simp) (.bool true) (.slice A n c)).below (below_alloc (w.alloc (.cells #[.bool true, .slice A n c] 25)) (.cells #[.bool false, .slice A' n' c'] 25))).below (below_alloc ((w.alloc (.cells #[.bool true, .slice A n c] 25)).alloc (.cells #[.bool false, .slice A' n' c'] 25)) (.cells #[.bool false, .slice none 0 0] 25)))
    have kb := ((Bx.new (w.alloc (.cells #[.bool true, .slice A n c] 25)) (w.heap.size + 1) (by simp) (.bool false) (.slice A' n' c')).below (below_alloc ((w.alloc (.cells #[.bool true, .slice A n c] 25)).alloc (.cells #[.bool false, .slice A' n' c'] 25)) (.cells #[.bool false, .slice none 0 0] 25)))
    have kr := (Rx.new ((w.alloc (.cells #[.bool true, .slice A n c] 25)).alloc (.cells #[.bool false, .slice A' n' c'] 25)) (w.heap.size + 1 + 1) (by simp))
    go_enter Tryd.func21, Tryd.ntmps21
    have ka0 := ka.1
    have ka1 := ka.2
    have kb0 := kb.1
    have kb1 := kb.2
    have kr0 := kr.1
    have kr1 := kr.2.1
    have kr2 := kr.2.2.1
    have kr3 := kr.2.2.2
    go_wp2_with fail
    refine (sub_n hm hm' (by omega) H.out).mono ?_
    clear ka0 ka1 kb0 kb1 kr0 kr1 kr2 kr3
    rintro e w1 ⟨v1, rfl, z1, bb⟩
    have hm := hm.below bb
    have hm' := hm'.below bb
    have ka := ka.below bb
    have kb := kb.below bb
    have kr := kr.below bb
    have B0 := B0.trans (bb.mono B0.size)
    clear bb
    have ka0 := ka.1
    have ka1 := ka.2
    have kb0 := kb.1
    have kb1 := kb.2
    have kr0 := kr.1
    have kr1 := kr.2.1
    have kr2 := kr.2.2.1
    have kr3 := kr.2.2.2
    go_wp2_with fail
    refine (signed_i true (z1.wide' (k' := max k j + 1) (by omega)) _ (sgn_ge true m m' H.out).symm).mono ?_
    clear ka0 ka1 kb0 kb1 kr0 kr1 kr2 kr3
    rintro e w2 ⟨vr, rfl, zr, bb⟩
    have ka := ka.below bb
    have kb := kb.below bb
    have kr := kr.below bb
    have B0 := B0.trans (bb.mono B0.size)
    clear bb
    obtain ⟨br, Ar, nr, cr, rfl, zr⟩ := zr.cells
    have ka0 := ka.1
    have ka1 := ka.2
    have kb0 := kb.1
    have kb1 := kb.2
    have kr0 := kr.1
    have kr1 := kr.2.1
    have kr2 := kr.2.2.1
    have kr3 := kr.2.2.2
    go_wp2
    refine bodyPost_ret (v := .agg #[.bool br, .slice Ar nr cr]) (by simp [results, Tryd.results21, go_sem, kr0, kr1]) rfl ⟨_, rfl, zr.ret kr _ _, below_ret B0 (by omega) _ _⟩
set_option maxRecDepth 20000 in
set_option maxHeartbeats 1000000 in
theorem iadd_lt (b : Bool) {A A' : Option Addr} {n n' c c' m m' k j : Nat} {w : World} (hm : Nm w (.slice A n c) m k) (hm' : Nm w (.slice A' n' c') m' j) (hk : k ≤ 400) (hj : j ≤ 400) (h : m < m') : Calls Tryd.prog 21 #[.agg #[.bool b, .slice A n c], .agg #[.bool (!b), .slice A' n' c']] w (IEnd (sgn b m + sgn (!b) m') (max k j + 1) w) := by
  have H := Lib.hid h
  clear h
  cases b
  · have B0 := below_a3 w (.cells #[.bool false, .slice A n c] 25) (.cells #[.bool true, .slice A' n' c'] 25) (.cells #[.bool false, .slice none 0 0] 25)
    have hm := hm.below B0
    have hm' := hm'.below B0
    have ka := (((Bx.new w (w.heap.size) (by simp) (.bool false) (.slice A n c)).below (below_alloc (w.alloc (.cells #[.bool false, .slice A n c] 25)) (.cells #[.bool true, .slice A' n' c'] 25))).below (below_alloc ((w.alloc (.cells #[.bool false, .slice A n c] 25)).alloc (.cells #[.bool true, .slice A' n' c'] 25)) (.cells #[.bool false, .slice none 0 0] 25)))
    have kb := ((Bx.new (w.alloc (.cells #[.bool false, .slice A n c] 25)) (w.heap.size + 1) (by simp) (.bool true) (.slice A' n' c')).below (below_alloc ((w.alloc (.cells #[.bool false, .slice A n c] 25)).alloc (.cells #[.bool true, .slice A' n' c'] 25)) (.cells #[.bool false, .slice none 0 0] 25)))
    have kr := (Rx.new ((w.alloc (.cells #[.bool false, .slice A n c] 25)).alloc (.cells #[.bool true, .slice A' n' c'] 25)) (w.heap.size + 1 + 1) (by simp))
    go_enter Tryd.func21, Tryd.ntmps21
    have ka0 := ka.1
    have ka1 := ka.2
    have kb0 := kb.1
    have kb1 := kb.2
    have kr0 := kr.1
    have kr1 := kr.2.1
    have kr2 := kr.2.2.1
    have kr3 := kr.2.2.2
    go_wp2_with fail
    refine (sub_n0 hm hm' H.out).mono ?_
    clear ka0 ka1 kb0 kb1 kr0 kr1 kr2 kr3
    rintro e w1 ⟨rfl, bb⟩
    have hm := hm.below bb
    have hm' := hm'.below bb
    have ka := ka.below bb
    have kb := kb.below bb
    have kr := kr.below bb
    have B0 := B0.trans (bb.mono B0.size)
    clear bb
    have ka0 := ka.1
    have ka1 := ka.2
    have kb0 := kb.1
    have kb1 := kb.2
    have kr0 := kr.1
    have kr1 := kr.2.1
    have kr2 := kr.2.2.1
    have kr3 := kr.2.2.2
    go_wp2_with fail
    refine (sub_n hm' hm (by omega) (Nat.le_of_lt H.out)).mono ?_
    clear ka0 ka1 kb0 kb1 kr0 kr1 kr2 kr3
    rintro e w2 ⟨v1, rfl, z1, bb⟩
    have hm := hm.below bb
    have hm' := hm'.below bb
    have ka := ka.below bb
    have kb := kb.below bb
    have kr := kr.below bb
    have B0 := B0.trans (bb.mono B0.size)
    clear bb
    have ka0 := ka.1
    have ka1 := ka.2
    have kb0 := kb.1
    have kb1 := kb.2
    have kr0 := kr.1
    have kr1 := kr.2.1
    have kr2 := kr.2.2.1
    have kr3 := kr.2.2.2
    go_wp2_with fail
    refine (signed_i true (z1.wide' (k' := max k j + 1) (by omega)) _ (sgn_lt false m m' H.out).symm).mono ?_
    clear ka0 ka1 kb0 kb1 kr0 kr1 kr2 kr3
    rintro e w3 ⟨vr, rfl, zr, bb⟩
    have ka := ka.below bb
    have kb := kb.below bb
    have kr := kr.below bb
    have B0 := B0.trans (bb.mono B0.size)
    clear bb
    obtain ⟨br, Ar, nr, cr, rfl, zr⟩ := zr.cells
    have ka0 := ka.1
    have ka1 := ka.2
    have kb0 := kb.1
    have kb1 := kb.2
    have kr0 := kr.1
    have kr1 := kr.2.1
    have kr2 := kr.2.2.1
    have kr3 := kr.2.2.2
    go_wp2
    refine bodyPost_ret (v := .agg #[.bool br, .slice Ar nr cr]) (by simp [results, Tryd.results21, go_sem, kr0, kr1]) rfl ⟨_, rfl, zr.ret kr _ _, below_ret B0 (by omega) _ _⟩
  · have B0 := below_a3 w (.cells #[.bool true, .slice A n c] 25) (.cells #[.bool false, .slice A' n' c'] 25) (.cells #[.bool false, .slice none 0 0] 25)
    have hm := hm.below B0
    have hm' := hm'.below B0
    have ka := (((Bx.new w (w.heap.size) (by simp) (.bool true) (.slice A n c)).below (below_alloc (w.alloc (.cells #[.bool true, .slice A n c] 25)) (.cells #[.bool false, .slice A' n' c'] 25))).below (below_alloc ((w.alloc (.cells #[.bool true, .slice A n c] 25)).alloc (.cells #[.bool false, .slice A' n' c'] 25)) (.cells #[.bool false, .slice none 0 0] 25)))
    have kb := ((Bx.new (w.alloc (.cells #[.bool true, .slice A n c] 25)) (w.heap.size + 1) (by simp) (.bool false) (.slice A' n' c')).below (below_alloc ((w.alloc (.cells #[.bool true, .slice A n c] 25)).alloc (.cells #[.bool false, .slice A' n' c'] 25)) (.cells #[.bool false, .slice none 0 0] 25)))
    have kr := (Rx.new ((w.alloc (.cells #[.bool true, .slice A n c] 25)).alloc (.cells #[.bool false, .slice A' n' c'] 25)) (w.heap.size + 1 + 1) (by simp))
    go_enter Tryd.func21, Tryd.ntmps21
    have ka0 := ka.1
    have ka1 := ka.2
    have kb0 := kb.1
    have kb1 := kb.2
    have kr0 := kr.1
    have kr1 := kr.2.1
    have kr2 := kr.2.2.1
    have kr3 := kr.2.2.2
    go_wp2_with fail
    refine (sub_n0 hm hm' H.out).mono ?_
    clear ka0 ka1 kb0 kb1 kr0 kr1 kr2 kr3
    rintro e w1 ⟨rfl, bb⟩
    have hm := hm.below bb
    have hm' := hm'.below bb
    have ka := ka.below bb
    have kb := kb.below bb
    have kr := kr.below bb
    have B0 := B0.trans (bb.mono B0.size)
    clear bb
    have ka0 := ka.1
    have ka1 := ka.2
    have kb0 := kb.1
    have kb1 := kb.2
    have kr0 := kr.1
    have kr1 := kr.2.1
    have kr2 := kr.2.2.1
    have kr3 := kr.2.2.2
    go_wp2_with fail
    refine (sub_n hm' hm (by omega) (Nat.le_of_lt H.out)).mono ?_
    clear ka0 ka1 kb0 kb1 kr0 kr1 kr2 kr3
    rintro e w2 ⟨v1, rfl, z1, bb⟩
    have hm := hm.below bb
    have hm' := hm'.below bb
    have ka := ka.below bb
    have kb := kb.below bb
    have kr := kr.below bb
    have B0 := B0.trans (bb.mono B0.size)
    clear bb
    have ka0 := ka.1
    have ka1 := ka.2
    have kb0 := kb.1
    have kb1 := kb.2
    have kr0 := kr.1
    have kr1 := kr.2.1
    have kr2 := kr.2.2.1
    have kr3 := kr.2.2.2
    go_wp2_with fail
    refine (signed_i false (z1.wide' (k' := max k j + 1) (by omega)) _ (sgn_lt true m m' H.out).symm).mono ?_
    clear ka0 ka1 kb0 kb1 kr0 kr1 kr2 kr3
    rintro e w3 ⟨vr, rfl, zr, bb⟩
    have ka := ka.below bb
    have kb := kb.below bb
    have kr := kr.below bb
    have B0 := B0.trans (bb.mono B0.size)
    clear bb
    obtain ⟨br, Ar, nr, cr, rfl, zr⟩ := zr.cells
    have ka0 := ka.1
    have ka1 := ka.2
    have kb0 := kb.1
    have kb1 := kb.2
    have kr0 := kr.1
    have kr1 := kr.2.1
    have kr2 := kr.2.2.1
    have kr3 := kr.2.2.2
    go_wp2
    refine bodyPost_ret (v := .agg #[.bool br, .slice Ar nr cr]) (by simp [results, Tryd.results21, go_sem, kr0, kr1]) rfl ⟨_, rfl, zr.ret kr _ _, below_ret B0 (by omega) _ _⟩
theorem iadd_i {w : World} {v u : Value} {z y : Int} {k j : Nat} (h : Iv w v z k) (hu : Iv w u y j) (hk : k ≤ 400) (hj : j ≤ 400) : Calls Tryd.prog 21 #[v, u] w (IEnd (z + y) (max k j + 1) w) := by
  obtain ⟨b, A, n, c, m, rfl, hm, rfl⟩ := h
  obtain ⟨b', A', n', c', m', rfl, hm', rfl⟩ := hu
  by_cases e : b' = b
  · subst e
    rw [← sgn_add]
    exact iadd_same b' hm hm' hk hj
  · obtain rfl : b' = !b := by cases b <;> cases b' <;> simp_all
    rcases Nat.lt_or_ge m m' with h | h
    · exact iadd_lt b hm hm' hk hj h
    · exact iadd_ge b hm hm' hk hj h
set_option maxRecDepth 20000 in
set_option maxHeartbeats 1000000 in
theorem isub_i {w : World} {v u : Value} {z y : Int} {k j : Nat} (h : Iv w v z k) (hu : Iv w u y j) (hk : k ≤ 400) (hj : j ≤ 400) : Calls Tryd.prog 23 #[v, u] w (IEnd (z - y) (max k j + 1) w) := by
  obtain ⟨b, A, n, c, m, rfl, hm, hz⟩ := h
  obtain ⟨b', A', n', c', m', rfl, hm', hy⟩ := hu
  have h : Iv w (.agg #[.bool b, .slice A n c]) z k := ⟨b, A, n, c, m, rfl, hm, hz⟩
  have hu : Iv w (.agg #[.bool (!b'), .slice A' n' c']) (-y) j := ⟨!b', A', n', c', m', rfl, hm', by rw [sgn_not, hy]⟩
  have HZ : Hid (z - y = z + -y) := by show _ = _; omega
  clear hz hy hm hm'
  rw [HZ.out]
  clear HZ
  have B0 := below_a3 w (.cells #[.bool b, .slice A n c] 25) (.cells #[.bool b', .slice A' n' c'] 25) (.cells #[.bool false, .slice none 0 0] 25)
  have h := h.below B0
  have hu := hu.below B0
  have ka := (((Bx.new w (w.heap.size) (by simp) (.bool b) (.slice A n c)).below (below_alloc (w.alloc (.cells #[.bool b, .slice A n c] 25)) (.cells #[.bool b', .slice A' n' c'] 25))).below (below_alloc ((w.alloc (.cells #[.bool b, .slice A n c] 25)).alloc (.cells #[.bool b', .slice A' n' c'] 25)) (.cells #[.bool false, .slice none 0 0] 25)))
  have kb := ((Bx.new (w.alloc (.cells #[.bool b, .slice A n c] 25)) (w.heap.size + 1) (by simp) (.bool b') (.slice A' n' c')).below (below_alloc ((w.alloc (.cells #[.bool b, .slice A n c] 25)).alloc (.cells #[.bool b', .slice A' n' c'] 25)) (.cells #[.bool false, .slice none 0 0] 25)))
  have kr := (Rx.new ((w.alloc (.cells #[.bool b, .slice A n c] 25)).alloc (.cells #[.bool b', .slice A' n' c'] 25)) (w.heap.size + 1 + 1) (by simp))
  go_enter Tryd.func23, Tryd.ntmps23
  have ka0 := ka.1
  have ka1 := ka.2
  have kb0 := kb.1
  have kb1 := kb.2
  have kr0 := kr.1
  have kr1 := kr.2.1
  have kr2 := kr.2.2.1
  have kr3 := kr.2.2.2
  go_wp2_with fail
  refine (iadd_i h hu hk hj).mono ?_
  clear ka0 ka1 kb0 kb1 kr0 kr1 kr2 kr3
  rintro e w1 ⟨vr, rfl, zr, bb⟩
  have h := h.below bb
  have hu := hu.below bb
  have ka := ka.below bb
  have kb := kb.below bb
  have kr := kr.below bb
  have B0 := B0.trans (bb.mono B0.size)
  clear bb
  obtain ⟨br, Ar, nr, cr, rfl, zr⟩ := zr.cells
  have ka0 := ka.1
  have ka1 := ka.2
  have kb0 := kb.1
  have kb1 := kb.2
  have kr0 := kr.1
  have kr1 := kr.2.1
  have kr2 := kr.2.2.1
  have kr3 := kr.2.2.2
  go_wp2
  refine bodyPost_ret (v := .agg #[.bool br, .slice Ar nr cr]) (by simp [results, Tryd.results23, go_sem, kr0, kr1]) rfl ⟨_, rfl, zr.ret kr _ _, below_ret B0 (by omega) _ _⟩
end Go.Proofs.YthcoemkbdllcfaaDoor
