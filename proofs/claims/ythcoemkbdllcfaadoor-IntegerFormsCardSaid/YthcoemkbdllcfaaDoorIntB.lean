/-
  The walks of integer.order, sign, Cmp and Text.
-/
import Derived.Test.YthcoemkbdllcfaaDoorIntA
import Derived.Test.YthcoemkbdllcfaaDoorReadK
namespace Go.Proofs.YthcoemkbdllcfaaDoor
open Go.RowKit
attribute [local go_sem ↓] Go.wp_at_zero Go.wp_at_succ
set_option linter.unusedVariables false

theorem order_true (w : World) : Calls Tryd.prog 43 #[.bool true] w fun e w' => e = .returned (.int .i64 1) ∧ w = w' := by
  go_enter Tryd.func43, Tryd.ntmps43
  go_wp2
  go_ret
  exact ⟨rfl, rfl⟩
theorem order_false (w : World) : Calls Tryd.prog 43 #[.bool false] w fun e w' => e = .returned (.int .i64 (-1)) ∧ w = w' := by
  go_enter Tryd.func43, Tryd.ntmps43
  go_wp2
  go_ret
  exact ⟨rfl, rfl⟩
theorem order_any (b : Bool) (w : World) : Calls Tryd.prog 43 #[.bool b] w fun e w' => e = .returned (.int .i64 (signI b)) ∧ Below w.heap.size w w' := by
  cases b
  · exact (order_false w).mono fun _ _ ⟨h, e⟩ => ⟨h, e ▸ Below.refl _ _⟩
  · exact (order_true w).mono fun _ _ ⟨h, e⟩ => ⟨h, e ▸ Below.refl _ _⟩
/-- The sign of an integer. -/
def sgI (z : Int) : Int := if z < 0 then -1 else if z = 0 then 0 else 1
theorem Nm.iv {w : World} {A : Option Addr} {n c m k : Nat} (h : Nm w (.slice A n c) m k) (b : Bool) : Iv w (.agg #[.bool b, .slice A n c]) (sgn b m) k := ⟨b, A, n, c, m, rfl, h, rfl⟩
theorem sgI_cases (z : Int) : (z < 0 ∧ sgI z = -1) ∨ (z = 0 ∧ sgI z = 0) ∨ (0 < z ∧ sgI z = 1) := by
  unfold sgI
  repeat' split
  all_goals omega
def cmpZ (z y : Int) : Int := if z < y then -1 else if z = y then 0 else 1
theorem cmpZ_cases (z y : Int) : (z < y ∧ cmpZ z y = -1) ∨ (z = y ∧ cmpZ z y = 0) ∨ (y < z ∧ cmpZ z y = 1) := by
  unfold cmpZ
  repeat' split
  all_goals omega
theorem cmpI_cases (a b : Nat) : (a < b ∧ cmpI a b = -1) ∨ (a = b ∧ cmpI a b = 0) ∨ (b < a ∧ cmpI a b = 1) := by
  unfold cmpI
  repeat' split
  all_goals omega
theorem signI_cases (p : Prop) [Decidable p] : (p ∧ signI (decide p) = 1) ∨ (¬p ∧ signI (decide p) = -1) := by
  by_cases h : p
  · exact .inl ⟨h, signI_true (decide_eq_true h)⟩
  · exact .inr ⟨h, signI_false (decide_eq_false h)⟩
def I64End (c : Int) (w : World) (e : Ending) (w' : World) : Prop := e = .returned (.int .i64 c) ∧ Below w.heap.size w w'
theorem sgI_zero (b : Bool) : sgI (sgn b 0) = 0 := by cases b <;> rfl
theorem sgI_pos (b : Bool) (m : Nat) (h : 0 < m) : sgI (sgn b m) = signI (!b) := by
  cases b
  · rw [sgn_false]; unfold sgI; rw [if_neg (by omega), if_neg (by omega)]; rfl
  · rw [sgn_true]; unfold sgI; rw [if_pos (by omega)]; rfl
set_option maxRecDepth 20000 in
set_option maxHeartbeats 1000000 in
theorem isign_0 (b : Bool) {A : Option Addr} {n c k : Nat} {w : World} (hm : Nm w (.slice A n c) 0 k) : Calls Tryd.prog 42 #[.agg #[.bool b, .slice A n c]] w (I64End 0 w) := by
  have B0 := below_a1 w (.cells #[.bool b, .slice A n c] 25)
  have hm := hm.below B0
  have ka := (Bx.new w (w.heap.size) (by simp) (.bool b) (.slice A n c))
  go_enter Tryd.func42, Tryd.ntmps42
  have ka0 := ka.1
  have ka1 := ka.2
  go_wp2_with fail
  refine (cmp_n hm (Nm.nil _) 0 (by rfl)).mono ?_
  clear ka0 ka1
  rintro e w1 ⟨rfl, bb⟩
  have hm := hm.below bb
  have ka := ka.below bb
  have B0 := B0.trans (bb.mono B0.size)
  clear bb
  go_wp2
  go_ret
  exact ⟨rfl, B0⟩
set_option maxRecDepth 20000 in
set_option maxHeartbeats 1000000 in
theorem isign_p (b : Bool) {A : Option Addr} {n c m k : Nat} {w : World} (hm : Nm w (.slice A n c) m k) (h : 0 < m) : Calls Tryd.prog 42 #[.agg #[.bool b, .slice A n c]] w (I64End (signI (!b)) w) := by
  have H := Lib.hid h
  clear h
  have B0 := below_a1 w (.cells #[.bool b, .slice A n c] 25)
  have hm := hm.below B0
  have ka := (Bx.new w (w.heap.size) (by simp) (.bool b) (.slice A n c))
  go_enter Tryd.func42, Tryd.ntmps42
  have ka0 := ka.1
  have ka1 := ka.2
  go_wp2_with fail
  refine (cmp_n hm (Nm.nil _) 1 (cmpI_gt H.out)).mono ?_
  clear ka0 ka1
  rintro e w1 ⟨rfl, bb⟩
  have hm := hm.below bb
  have ka := ka.below bb
  have B0 := B0.trans (bb.mono B0.size)
  clear bb
  have ka0 := ka.1
  have ka1 := ka.2
  go_wp2_with fail
  refine (order_any (!b) _).mono ?_
  clear ka0 ka1
  rintro e w2 ⟨rfl, bb⟩
  have hm := hm.below bb
  have ka := ka.below bb
  have B0 := B0.trans (bb.mono B0.size)
  clear bb
  go_wp2
  go_ret
  exact ⟨rfl, B0⟩
theorem isign_i {w : World} {v : Value} {z : Int} {k : Nat} (h : Iv w v z k) (c : Int) (hc : sgI z = c) : Calls Tryd.prog 42 #[v] w (I64End c w) := by
  obtain ⟨b, A, n, c', m, rfl, hm, rfl⟩ := h
  subst hc
  rcases Nat.eq_zero_or_pos m with h | h
  · subst h
    rw [sgI_zero]
    exact isign_0 b hm
  · rw [sgI_pos b m h]
    exact isign_p b hm h
set_option maxRecDepth 20000 in
set_option maxHeartbeats 1000000 in
theorem icmp_ne {w : World} {b b' : Bool} {A A' : Option Addr} {n n' c c' m m' k j : Nat} (hm : Nm w (.slice A n c) m k) (hm' : Nm w (.slice A' n' c') m' j) (s t : Int) (hne : (s != t) = true) (hs : sgI (sgn b m) = s) (ht : sgI (sgn b' m') = t) : Calls Tryd.prog 17 #[.agg #[.bool b, .slice A n c], .agg #[.bool b', .slice A' n' c']] w (I64End (signI (decide (t < s))) w) := by
  have Hs := Lib.hid hs
  have Ht := Lib.hid ht
  clear hs ht
  have B0 := below_a2 w (.cells #[.bool b, .slice A n c] 25) (.cells #[.bool b', .slice A' n' c'] 25)
  have hm := hm.below B0
  have hm' := hm'.below B0
  have ka := ((Bx.new w (w.heap.size) (by simp) (.bool b) (.slice A n c)).below (below_alloc (w.alloc (.cells #[.bool b, .slice A n c] 25)) (.cells #[.bool b', .slice A' n' c'] 25)))
  have kb := (Bx.new (w.alloc (.cells #[.bool b, .slice A n c] 25)) (w.heap.size + 1) (by simp) (.bool b') (.slice A' n' c'))
  go_enter Tryd.func17, Tryd.ntmps17
  go_wp2_with fail
  have hm := hm.drew
  have hm' := hm'.drew
  have ka := ka.drew
  have kb := kb.drew
  have B0 := b_drew B0
  go_region_held3 (fun w' => w'.cell? ⟨w.heap.size, 0, none⟩ = some (.bool b) ∧ w'.cell? ⟨w.heap.size, 1, none⟩ = some (.slice A n c) ∧ w'.cell? ⟨w.heap.size + 1, 0, none⟩ = some (.bool b') ∧ w'.cell? ⟨w.heap.size + 1, 1, none⟩ = some (.slice A' n' c')) (first | exact ⟨ka.1, ka.2, kb.1, kb.2⟩)
    (first
      | (go_at_call 42; (with_reducible refine (isign_i (hm.iv b) _ Hs.out).mono ?_); rintro e w1 ⟨rfl, bb⟩; have hm := hm.below bb; have hm' := hm'.below bb; have ka := ka.below bb; have kb := kb.below bb; have B0 := B0.trans (bb.mono B0.size); clear bb)
      | (go_at_call 42; (with_reducible refine (isign_i (hm'.iv b') _ Ht.out).mono ?_); rintro e w2 ⟨rfl, bb⟩; have hm := hm.below bb; have hm' := hm'.below bb; have ka := ka.below bb; have kb := kb.below bb; have B0 := B0.trans (bb.mono B0.size); clear bb))
  have ka0 := ka.1
  have ka1 := ka.2
  have kb0 := kb.1
  have kb1 := kb.2
  go_wp2_with fail
  refine (order_any _ _).mono ?_
  clear ka0 ka1 kb0 kb1
  rintro e w10 ⟨rfl, bb⟩
  have hm := hm.below bb
  have hm' := hm'.below bb
  have ka := ka.below bb
  have kb := kb.below bb
  have B0 := B0.trans (bb.mono B0.size)
  clear bb
  go_wp2
  go_ret
  exact ⟨rfl, B0⟩
set_option maxRecDepth 20000 in
set_option maxHeartbeats 1000000 in
theorem icmp_eq_false {w : World} {b' : Bool} {A A' : Option Addr} {n n' c c' m m' k j : Nat} (hm : Nm w (.slice A n c) m k) (hm' : Nm w (.slice A' n' c') m' j) (s : Int) (hs : sgI (sgn false m) = s) (ht : sgI (sgn b' m') = s) : Calls Tryd.prog 17 #[.agg #[.bool false, .slice A n c], .agg #[.bool b', .slice A' n' c']] w (I64End (cmpI m m') w) := by
  have Hs := Lib.hid hs
  have Ht := Lib.hid ht
  clear hs ht
  have hne : (s != s) = false := by simp
  have B0 := below_a2 w (.cells #[.bool false, .slice A n c] 25) (.cells #[.bool b', .slice A' n' c'] 25)
  have hm := hm.below B0
  have hm' := hm'.below B0
  have ka := ((Bx.new w (w.heap.size) (by simp) (.bool false) (.slice A n c)).below (below_alloc (w.alloc (.cells #[.bool false, .slice A n c] 25)) (.cells #[.bool b', .slice A' n' c'] 25)))
  have kb := (Bx.new (w.alloc (.cells #[.bool false, .slice A n c] 25)) (w.heap.size + 1) (by simp) (.bool b') (.slice A' n' c'))
  go_enter Tryd.func17, Tryd.ntmps17
  go_wp2_with fail
  have hm := hm.drew
  have hm' := hm'.drew
  have ka := ka.drew
  have kb := kb.drew
  have B0 := b_drew B0
  go_region_held3 (fun w' => w'.cell? ⟨w.heap.size, 0, none⟩ = some (.bool false) ∧ w'.cell? ⟨w.heap.size, 1, none⟩ = some (.slice A n c) ∧ w'.cell? ⟨w.heap.size + 1, 0, none⟩ = some (.bool b') ∧ w'.cell? ⟨w.heap.size + 1, 1, none⟩ = some (.slice A' n' c')) (first | exact ⟨ka.1, ka.2, kb.1, kb.2⟩)
    (first
      | (go_at_call 42; (with_reducible refine (isign_i (hm.iv false) _ Hs.out).mono ?_); rintro e w1 ⟨rfl, bb⟩; have hm := hm.below bb; have hm' := hm'.below bb; have ka := ka.below bb; have kb := kb.below bb; have B0 := B0.trans (bb.mono B0.size); clear bb)
      | (go_at_call 42; (with_reducible refine (isign_i (hm'.iv b') _ Ht.out).mono ?_); rintro e w2 ⟨rfl, bb⟩; have hm := hm.below bb; have hm' := hm'.below bb; have ka := ka.below bb; have kb := kb.below bb; have B0 := B0.trans (bb.mono B0.size); clear bb))
  have ka0 := ka.1
  have ka1 := ka.2
  have kb0 := kb.1
  have kb1 := kb.2
  go_wp2_with fail
  refine (cmp_n hm hm' _ rfl).mono ?_
  clear ka0 ka1 kb0 kb1
  rintro e w10 ⟨rfl, bb⟩
  have hm := hm.below bb
  have hm' := hm'.below bb
  have ka := ka.below bb
  have kb := kb.below bb
  have B0 := B0.trans (bb.mono B0.size)
  clear bb
  go_wp2
  go_ret
  exact ⟨rfl, B0⟩
set_option maxRecDepth 20000 in
set_option maxHeartbeats 1000000 in
theorem icmp_eq_true {w : World} {b' : Bool} {A A' : Option Addr} {n n' c c' m m' k j : Nat} (hm : Nm w (.slice A n c) m k) (hm' : Nm w (.slice A' n' c') m' j) (s : Int) (hs : sgI (sgn true m) = s) (ht : sgI (sgn b' m') = s) : Calls Tryd.prog 17 #[.agg #[.bool true, .slice A n c], .agg #[.bool b', .slice A' n' c']] w (I64End (cmpI m' m) w) := by
  have Hs := Lib.hid hs
  have Ht := Lib.hid ht
  clear hs ht
  have hne : (s != s) = false := by simp
  have B0 := below_a2 w (.cells #[.bool true, .slice A n c] 25) (.cells #[.bool b', .slice A' n' c'] 25)
  have hm := hm.below B0
  have hm' := hm'.below B0
  have ka := ((Bx.new w (w.heap.size) (by simp) (.bool true) (.slice A n c)).below (below_alloc (w.alloc (.cells #[.bool true, .slice A n c] 25)) (.cells #[.bool b', .slice A' n' c'] 25)))
  have kb := (Bx.new (w.alloc (.cells #[.bool true, .slice A n c] 25)) (w.heap.size + 1) (by simp) (.bool b') (.slice A' n' c'))
  go_enter Tryd.func17, Tryd.ntmps17
  go_wp2_with fail
  have hm := hm.drew
  have hm' := hm'.drew
  have ka := ka.drew
  have kb := kb.drew
  have B0 := b_drew B0
  go_region_held3 (fun w' => w'.cell? ⟨w.heap.size, 0, none⟩ = some (.bool true) ∧ w'.cell? ⟨w.heap.size, 1, none⟩ = some (.slice A n c) ∧ w'.cell? ⟨w.heap.size + 1, 0, none⟩ = some (.bool b') ∧ w'.cell? ⟨w.heap.size + 1, 1, none⟩ = some (.slice A' n' c')) (first | exact ⟨ka.1, ka.2, kb.1, kb.2⟩)
    (first
      | (go_at_call 42; (with_reducible refine (isign_i (hm.iv true) _ Hs.out).mono ?_); rintro e w1 ⟨rfl, bb⟩; have hm := hm.below bb; have hm' := hm'.below bb; have ka := ka.below bb; have kb := kb.below bb; have B0 := B0.trans (bb.mono B0.size); clear bb)
      | (go_at_call 42; (with_reducible refine (isign_i (hm'.iv b') _ Ht.out).mono ?_); rintro e w2 ⟨rfl, bb⟩; have hm := hm.below bb; have hm' := hm'.below bb; have ka := ka.below bb; have kb := kb.below bb; have B0 := B0.trans (bb.mono B0.size); clear bb))
  have ka0 := ka.1
  have ka1 := ka.2
  have kb0 := kb.1
  have kb1 := kb.2
  go_wp2_with fail
  refine (cmp_n hm' hm _ rfl).mono ?_
  clear ka0 ka1 kb0 kb1
  rintro e w10 ⟨rfl, bb⟩
  have hm := hm.below bb
  have hm' := hm'.below bb
  have ka := ka.below bb
  have kb := kb.below bb
  have B0 := B0.trans (bb.mono B0.size)
  clear bb
  go_wp2
  go_ret
  exact ⟨rfl, B0⟩
theorem icmp_i {w : World} {v u : Value} {z y : Int} {k j : Nat} (h : Iv w v z k) (hu : Iv w u y j) (c : Int) (hc : cmpZ z y = c) : Calls Tryd.prog 17 #[v, u] w (I64End c w) := by
  obtain ⟨b, A, n, d, m, rfl, hm, rfl⟩ := h
  obtain ⟨b', A', n', d', m', rfl, hm', rfl⟩ := hu
  subst hc
  by_cases e : sgI (sgn b m) = sgI (sgn b' m')
  · cases b
    · have e' : cmpZ (sgn false m) (sgn b' m') = cmpI m m' := by
        have h1 := sgI_cases (sgn false m)
        have h2 := sgI_cases (sgn b' m')
        have h3 := cmpZ_cases (sgn false m) (sgn b' m')
        have h4 := cmpI_cases m m'
        cases b' <;> simp only [sgn_true, sgn_false] at * <;> omega
      rw [e']
      exact icmp_eq_false hm hm' _ e rfl
    · have e' : cmpZ (sgn true m) (sgn b' m') = cmpI m' m := by
        have h1 := sgI_cases (sgn true m)
        have h2 := sgI_cases (sgn b' m')
        have h3 := cmpZ_cases (sgn true m) (sgn b' m')
        have h4 := cmpI_cases m' m
        cases b' <;> simp only [sgn_true, sgn_false] at * <;> omega
      rw [e']
      exact icmp_eq_true hm hm' _ e rfl
  · have e' : cmpZ (sgn b m) (sgn b' m') = signI (decide (sgI (sgn b' m') < sgI (sgn b m))) := by
      have h1 := sgI_cases (sgn b m)
      have h2 := sgI_cases (sgn b' m')
      have h3 := cmpZ_cases (sgn b m) (sgn b' m')
      have h4 := signI_cases (sgI (sgn b' m') < sgI (sgn b m))
      omega
    rw [e']
    exact icmp_ne hm hm' _ _ (by simpa using e) rfl rfl
end Go.Proofs.YthcoemkbdllcfaaDoor
