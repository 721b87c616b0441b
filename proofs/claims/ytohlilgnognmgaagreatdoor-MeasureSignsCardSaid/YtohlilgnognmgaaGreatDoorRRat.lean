/-
  The walks of garmentref03, without Text and Parse.
-/
import Derived.Test.YtohlilgnognmgaaGreatDoorRatM
import Derived.Test.YtohlilgnognmgaaGreatDoorRatS
import Derived.Test.YtohlilgnognmgaaGreatDoorRatC
import Derived.Test.YtohlilgnognmgaaGreatDoorJRInt
namespace Go.Proofs.YtohlilgnognmgaaGreatDoor
open Go.RowKit
attribute [local go_sem ↓] Go.wp_at_zero Go.wp_at_succ
set_option linter.unusedVariables false

set_option maxRecDepth 20000 in
set_option maxHeartbeats 2000000 in
theorem rreduce_q (b : Bool) {w : World} {v u : Value} {m d k j : Nat} (hm : Nm w v m k) (hd : Nm w u d j) (hk : k ≤ 100) (hj : j ≤ 100) (h0 : d ≠ 0) (x : Rat) (hx : mkRat (sgn b m) d = x) : Calls Tryz.prog 51 #[.bool b, v, u] w (QEnd x k j w) := by
  obtain ⟨A, n, c, rfl, _, _⟩ := hm.form
  obtain ⟨A', n', c', rfl, _, _⟩ := hd.form
  have hg : 0 < Nat.gcd m d := Nat.gcd_pos_of_pos_right _ (by omega)
  have hn : x.num = sgn b (m / Nat.gcd m d) := by rw [← hx]; exact RatN.low_num _ _ _ h0
  have he : x.den = d / Nat.gcd m d := by rw [← hx]; exact RatN.low_den' _ _ _ h0
  have HG := Lib.hid hg
  have HN := Lib.hid hn
  have HD := Lib.hid he
  clear hx h0 hg hn he
  have B0 := below_a1 w (.cells #[.bool false, .slice none 0 0, .slice none 0 0] 27)
  have hm := hm.below B0
  have hd := hd.below B0
  have kr := (Rq.new w (w.heap.size) (by simp))
  go_enter Tryz.func51, Tryz.ntmps51
  have kr_0 := kr.1
  have kr_1 := kr.2.1
  have kr_2 := kr.2.2.1
  have kr_3 := kr.2.2.2.1
  have kr_4 := kr.2.2.2.2.1
  have kr_5 := kr.2.2.2.2.2
  go_wp2_with fail
  refine (rgcd_n hm hd (by omega) (by omega)).mono ?_
  clear kr_0 kr_1 kr_2 kr_3 kr_4 kr_5
  rintro e w1 ⟨v1, rfl, z1, bb⟩
  have hm := hm.below bb
  have hd := hd.below bb
  have kr := kr.below bb
  have B0 := B0.trans (bb.mono B0.size)
  clear bb
  obtain ⟨A1, n1, c1, rfl, _, _⟩ := z1.nm.form
  have kr_0 := kr.1
  have kr_1 := kr.2.1
  have kr_2 := kr.2.2.1
  have kr_3 := kr.2.2.2.1
  have kr_4 := kr.2.2.2.2.1
  have kr_5 := kr.2.2.2.2.2
  go_wp2_with fail
  refine (rdiv_n hm z1.nm (by omega) (by omega) HG.out).mono ?_
  clear kr_0 kr_1 kr_2 kr_3 kr_4 kr_5
  rintro e w2 ⟨v2, v3, rfl, z2, z3, bb⟩
  have hm := hm.below bb
  have hd := hd.below bb
  have kr := kr.below bb
  have z1 := z1.below bb
  have B0 := B0.trans (bb.mono B0.size)
  clear bb
  obtain ⟨A2, n2, c2, rfl, _, _⟩ := z2.nm.form
  clear z3
  have kr_0 := kr.1
  have kr_1 := kr.2.1
  have kr_2 := kr.2.2.1
  have kr_3 := kr.2.2.2.1
  have kr_4 := kr.2.2.2.2.1
  have kr_5 := kr.2.2.2.2.2
  go_wp2_with fail
  refine (rdiv_n hd z1.nm (by omega) (by omega) HG.out).mono ?_
  clear kr_0 kr_1 kr_2 kr_3 kr_4 kr_5
  rintro e w3 ⟨v4, v5, rfl, z4, z5, bb⟩
  have hd := hd.below bb
  have kr := kr.below bb
  have z1 := z1.below bb
  have z2 := z2.below bb
  have B0 := B0.trans (bb.mono B0.size)
  clear bb
  obtain ⟨A4, n4, c4, rfl, _, _⟩ := z4.nm.form
  clear z5
  have kr_0 := kr.1
  have kr_1 := kr.2.1
  have kr_2 := kr.2.2.1
  have kr_3 := kr.2.2.2.1
  have kr_4 := kr.2.2.2.2.1
  have kr_5 := kr.2.2.2.2.2
  go_wp2_with fail
  refine (rnorm_i (z2.nm.iv b) (by omega)).mono ?_
  clear kr_0 kr_1 kr_2 kr_3 kr_4 kr_5
  rintro e w4 ⟨v6, rfl, z6, bb⟩
  have kr := kr.below bb
  have z2 := z2.below bb
  have z4 := z4.below bb
  have B0 := B0.trans (bb.mono B0.size)
  clear bb
  obtain ⟨b6, A6, n6, c6, rfl, z6⟩ := z6.cells
  have kr_0 := kr.1
  have kr_1 := kr.2.1
  have kr_2 := kr.2.2.1
  have kr_3 := kr.2.2.2.1
  have kr_4 := kr.2.2.2.2.1
  have kr_5 := kr.2.2.2.2.2
  go_wp2
  refine bodyPost_ret (v := .agg #[.bool b6, .slice A6 n6 c6, .slice A4 n4 c4]) (by simp [results, Tryz.results51, go_sem, kr_0, kr_1, kr_2]) rfl ⟨_, _, _, _, _, _, _, rfl, Qz.mk (z6.ret3 kr _ _ _) (z4.ret3 kr _ _ _) HN.out.symm HD.out.symm, below_ret3 B0 (by omega) _ _ _⟩
set_option maxRecDepth 20000 in
set_option maxHeartbeats 2000000 in
theorem rwhole_0 (w : World) : Calls Tryz.prog 22 #[.int .i64 0] w (QEnd 0 2 2 w) := by
  have B0 := below_a1 w (.cells #[.bool false, .slice none 0 0, .slice none 0 0] 27)
  have kr := (Rq.new w (w.heap.size) (by simp))
  go_enter Tryz.func22, Tryz.ntmps22
  have kr_0 := kr.1
  have kr_1 := kr.2.1
  have kr_2 := kr.2.2.1
  have kr_3 := kr.2.2.2.1
  have kr_4 := kr.2.2.2.2.1
  have kr_5 := kr.2.2.2.2.2
  go_wp2_with fail
  refine (riof_i 0 (by decide) (by decide) _).mono ?_
  clear kr_0 kr_1 kr_2 kr_3 kr_4 kr_5
  rintro e w1 ⟨v1, rfl, z1, bb⟩
  have kr := kr.below bb
  have B0 := B0.trans (bb.mono B0.size)
  clear bb
  obtain ⟨b1, A1, n1, c1, rfl, z1⟩ := z1.cells
  have kr_0 := kr.1
  have kr_1 := kr.2.1
  have kr_2 := kr.2.2.1
  have kr_3 := kr.2.2.2.1
  have kr_4 := kr.2.2.2.2.1
  have kr_5 := kr.2.2.2.2.2
  go_wp2_with fail
  refine (rof_z' 1 1 rfl (by decide)).mono ?_
  clear kr_0 kr_1 kr_2 kr_3 kr_4 kr_5
  rintro e w2 ⟨v2, rfl, z2, bb⟩
  have kr := kr.below bb
  have z1 := z1.below bb
  have B0 := B0.trans (bb.mono B0.size)
  clear bb
  obtain ⟨A2, n2, c2, rfl, _, _⟩ := z2.nm.form
  have kr_0 := kr.1
  have kr_1 := kr.2.1
  have kr_2 := kr.2.2.1
  have kr_3 := kr.2.2.2.1
  have kr_4 := kr.2.2.2.2.1
  have kr_5 := kr.2.2.2.2.2
  go_wp2
  refine bodyPost_ret (v := .agg #[.bool b1, .slice A1 n1 c1, .slice A2 n2 c2]) (by simp [results, Tryz.results22, go_sem, kr_0, kr_1, kr_2]) rfl ⟨_, _, _, _, _, _, _, rfl, Qz.mk (z1.ret3 kr _ _ _) (z2.ret3 kr _ _ _) rfl rfl, below_ret3 B0 (by omega) _ _ _⟩
theorem rnorm_e {w : World} {va : Value} {a k : Nat} (ha : Nm w va a k) (hk : k ≤ 1000) : Calls Tryz.prog 80 #[va] w (fun e w' => ∃ A n c, e = .returned (.slice A n c) ∧ (n = 0 ↔ a = 0) ∧ n ≤ k ∧ Below w.heap.size w w') :=
  (rnorm_n ha hk).mono fun e w' h => by
    obtain ⟨v, he, hz, hb⟩ := h.fin
    obtain ⟨A, n, c, rfl, _, _⟩ := hz.nm.form
    exact ⟨A, n, c, he, hz.len0.1, hz.len0.2.1, hb⟩
set_option maxRecDepth 20000 in
set_option maxHeartbeats 2000000 in
theorem rzero_a {w : World} {b : Bool} {A : Option Addr} {n c : Nat} {B : Option Addr} {m c' k j d a : Nat} (hn : Nm w (.slice A n c) a k) (hd : Nm w (.slice B m c') d j) (hk : k ≤ 900) (hj : j ≤ 900) (h : a = 0) : Calls Tryz.prog 90 #[.agg #[.bool b, .slice A n c, .slice B m c']] w (BoolEnd true w) := by
  have H := Lib.hid h
  clear h
  have B0 := below_a1 w (.cells #[.bool b, .slice A n c, .slice B m c'] 27)
  have hn := hn.below B0
  have hd := hd.below B0
  have ka := (Bq.new w (w.heap.size) (by simp) (.bool b) (.slice A n c) (.slice B m c'))
  go_enter Tryz.func90, Tryz.ntmps90
  have ka_0 := ka.c0
  have ka_1 := ka.c1
  have ka_2 := ka.c2
  go_wp2_with fail
  refine (rnorm_e hn (by omega)).mono ?_
  clear ka_0 ka_1 ka_2
  rintro e w1 ⟨A1, n1, c1, rfl, hz, hk1, bb⟩
  have hn := hn.below bb
  have hd := hd.below bb
  have ka := ka.below bb
  have B0 := B0.trans (bb.mono B0.size)
  clear bb
  obtain rfl : n1 = 0 := hz.2 H.out
  clear hz
  go_wp2
  go_ret
  exact ⟨rfl, B0⟩
set_option maxRecDepth 20000 in
set_option maxHeartbeats 2000000 in
theorem rzero_d {w : World} {b : Bool} {A : Option Addr} {n c : Nat} {B : Option Addr} {m c' k j d a : Nat} (hn : Nm w (.slice A n c) a k) (hd : Nm w (.slice B m c') d j) (hk : k ≤ 900) (hj : j ≤ 900) (h : a ≠ 0) (h' : d = 0) : Calls Tryz.prog 90 #[.agg #[.bool b, .slice A n c, .slice B m c']] w (BoolEnd true w) := by
  have H := Lib.hid h
  clear h
  have H' := Lib.hid h'
  clear h'
  have B0 := below_a1 w (.cells #[.bool b, .slice A n c, .slice B m c'] 27)
  have hn := hn.below B0
  have hd := hd.below B0
  have ka := (Bq.new w (w.heap.size) (by simp) (.bool b) (.slice A n c) (.slice B m c'))
  go_enter Tryz.func90, Tryz.ntmps90
  have ka_0 := ka.c0
  have ka_1 := ka.c1
  have ka_2 := ka.c2
  go_wp2_with fail
  refine (rnorm_e hn (by omega)).mono ?_
  clear ka_0 ka_1 ka_2
  rintro e w1 ⟨A1, n1, c1, rfl, hz, hk1, bb⟩
  have hn := hn.below bb
  have hd := hd.below bb
  have ka := ka.below bb
  have B0 := B0.trans (bb.mono B0.size)
  clear bb
  have hb1 : (((n1 : Nat) : Int) == 0) = false := by
    rw [beq_eq_false_iff_ne]; have := hz.1; have := H.out; omega
  clear hz
  have ka_0 := ka.c0
  have ka_1 := ka.c1
  have ka_2 := ka.c2
  go_wp2_with fail
  refine (rnorm_e hd (by omega)).mono ?_
  clear ka_0 ka_1 ka_2
  rintro e w2 ⟨A2, n2, c2, rfl, hz, hk2, bb⟩
  have hn := hn.below bb
  have hd := hd.below bb
  have ka := ka.below bb
  have B0 := B0.trans (bb.mono B0.size)
  clear bb
  obtain rfl : n2 = 0 := hz.2 H'.out
  clear hz
  go_wp2
  go_ret
  exact ⟨rfl, B0⟩
set_option maxRecDepth 20000 in
set_option maxHeartbeats 2000000 in
theorem rzero_n {w : World} {b : Bool} {A : Option Addr} {n c : Nat} {B : Option Addr} {m c' k j d a : Nat} (hn : Nm w (.slice A n c) a k) (hd : Nm w (.slice B m c') d j) (hk : k ≤ 900) (hj : j ≤ 900) (h : a ≠ 0) (h' : d ≠ 0) : Calls Tryz.prog 90 #[.agg #[.bool b, .slice A n c, .slice B m c']] w (BoolEnd false w) := by
  have H := Lib.hid h
  clear h
  have H' := Lib.hid h'
  clear h'
  have B0 := below_a1 w (.cells #[.bool b, .slice A n c, .slice B m c'] 27)
  have hn := hn.below B0
  have hd := hd.below B0
  have ka := (Bq.new w (w.heap.size) (by simp) (.bool b) (.slice A n c) (.slice B m c'))
  go_enter Tryz.func90, Tryz.ntmps90
  have ka_0 := ka.c0
  have ka_1 := ka.c1
  have ka_2 := ka.c2
  go_wp2_with fail
  refine (rnorm_e hn (by omega)).mono ?_
  clear ka_0 ka_1 ka_2
  rintro e w1 ⟨A1, n1, c1, rfl, hz, hk1, bb⟩
  have hn := hn.below bb
  have hd := hd.below bb
  have ka := ka.below bb
  have B0 := B0.trans (bb.mono B0.size)
  clear bb
  have hb1 : (((n1 : Nat) : Int) == 0) = false := by
    rw [beq_eq_false_iff_ne]; have := hz.1; have := H.out; omega
  clear hz
  have ka_0 := ka.c0
  have ka_1 := ka.c1
  have ka_2 := ka.c2
  go_wp2_with fail
  refine (rnorm_e hd (by omega)).mono ?_
  clear ka_0 ka_1 ka_2
  rintro e w2 ⟨A2, n2, c2, rfl, hz, hk2, bb⟩
  have hn := hn.below bb
  have hd := hd.below bb
  have ka := ka.below bb
  have B0 := B0.trans (bb.mono B0.size)
  clear bb
  have hb2 : (((n2 : Nat) : Int) == 0) = false := by
    rw [beq_eq_false_iff_ne]; have := hz.1; have := H'.out; omega
  clear hz
  go_wp2
  go_ret
  exact ⟨rfl, B0⟩
/-- Zero says whether the value is 0. -/
theorem rzero_q {w : World} {v : Value} {x : Rat} {k j : Nat} (h : Qv w v x k j) (hk : k ≤ 900) (hj : j ≤ 900) (o : Bool) (ho : decide (x = 0) = o) : Calls Tryz.prog 90 #[v] w (BoolEnd o w) := by
  obtain ⟨b, A, n, c, B, m, c', z, d, rfl, h1, h2, rfl⟩ := h
  obtain ⟨b', a, ⟨hm, rfl⟩, rfl⟩ := h1.nm_of
  have e := RatN.mk_zero (sgn b a) d
  have e0 : sgn b a = 0 ↔ a = 0 := by cases b <;> simp [sgn]
  by_cases ha : a = 0
  · rw [← ho, decide_eq_true (e.mpr (.inl (e0.mpr ha)))]; exact rzero_a hm h2 hk hj ha
  · by_cases hd : d = 0
    · rw [← ho, decide_eq_true (e.mpr (.inr hd))]; exact rzero_d hm h2 hk hj ha hd
    · rw [← ho, decide_eq_false (fun h => (e.mp h).elim (fun h => ha (e0.mp h)) hd)]; exact rzero_n hm h2 hk hj ha hd
set_option maxRecDepth 20000 in
set_option maxHeartbeats 2000000 in
theorem rqnorm_z {w : World} {va : Value} {x : Rat} {k j : Nat} (ha : Qv w va x k j) (hk : k ≤ 90) (hj : j ≤ 90) (h0 : x = 0) : Calls Tryz.prog 59 #[va] w (QEnd x 2 2 w) := by
  obtain ⟨ba, Aa, na, ca, Ba, ma, da, z, d, rfl, hi, hd, hx⟩ := ha
  obtain ⟨b', a, ⟨hm, rfl⟩, rfl⟩ := hi.nm_of
  have ha : Qv w (.agg #[.bool ba, .slice Aa na ca, .slice Ba ma da]) x k j := ⟨_, _, _, _, _, _, _, _, _, rfl, hi, hd, hx⟩
  subst h0
  clear hx hi hd hm
  have B0 := below_a2 w (.cells #[.bool ba, .slice Aa na ca, .slice Ba ma da] 27) (.cells #[.bool false, .slice none 0 0, .slice none 0 0] 27)
  have ha := ha.below B0
  have ka := ((Bq.new w (w.heap.size) (by simp) (.bool ba) (.slice Aa na ca) (.slice Ba ma da)).below (below_alloc (w.alloc (.cells #[.bool ba, .slice Aa na ca, .slice Ba ma da] 27)) (.cells #[.bool false, .slice none 0 0, .slice none 0 0] 27)))
  have kr := (Rq.new (w.alloc (.cells #[.bool ba, .slice Aa na ca, .slice Ba ma da] 27)) (w.heap.size + 1) (by simp))
  go_enter Tryz.func59, Tryz.ntmps59
  have ka_0 := ka.c0
  have ka_1 := ka.c1
  have ka_2 := ka.c2
  have kr_0 := kr.1
  have kr_1 := kr.2.1
  have kr_2 := kr.2.2.1
  have kr_3 := kr.2.2.2.1
  have kr_4 := kr.2.2.2.2.1
  have kr_5 := kr.2.2.2.2.2
  go_wp2_with fail
  refine (rzero_q ha (by omega) (by omega) true (decide_eq_true rfl)).mono ?_
  clear ka_0 ka_1 ka_2 kr_0 kr_1 kr_2 kr_3 kr_4 kr_5
  rintro e w1 ⟨rfl, bb⟩
  have ha := ha.below bb
  have ka := ka.below bb
  have kr := kr.below bb
  have B0 := B0.trans (bb.mono B0.size)
  clear bb
  have kr_0 := kr.1
  have kr_1 := kr.2.1
  have kr_2 := kr.2.2.1
  have kr_3 := kr.2.2.2.1
  have kr_4 := kr.2.2.2.2.1
  have kr_5 := kr.2.2.2.2.2
  go_wp2_with fail
  refine (rwhole_0 _).mono ?_
  clear kr_0 kr_1 kr_2 kr_3 kr_4 kr_5
  rintro e w2 ⟨br, Ar, nr, cr, Br, mr, dr, rfl, zr, bb⟩
  have kr := kr.below bb
  have B0 := B0.trans (bb.mono B0.size)
  clear bb
  have kr_0 := kr.1
  have kr_1 := kr.2.1
  have kr_2 := kr.2.2.1
  have kr_3 := kr.2.2.2.1
  have kr_4 := kr.2.2.2.2.1
  have kr_5 := kr.2.2.2.2.2
  go_wp2
  refine bodyPost_ret (v := .agg #[.bool br, .slice Ar nr cr, .slice Br mr dr]) (by simp [results, Tryz.results59, go_sem, kr_0, kr_1, kr_2]) rfl ⟨_, _, _, _, _, _, _, rfl, zr.ret3 kr _ _ _, below_ret3 B0 (by omega) _ _ _⟩
set_option maxRecDepth 20000 in
set_option maxHeartbeats 2000000 in
theorem rqnorm_p {w : World} {va : Value} {x : Rat} {k j : Nat} (ha : Qv w va x k j) (hk : k ≤ 90) (hj : j ≤ 90) (h0 : x ≠ 0) : Calls Tryz.prog 59 #[va] w (QEnd x k j w) := by
  obtain ⟨ba, Aa, na, ca, Ba, ma, da, z, d, rfl, hi, hd, hx⟩ := ha
  obtain ⟨b', a, ⟨hm, rfl⟩, rfl⟩ := hi.nm_of
  have ha : Qv w (.agg #[.bool ba, .slice Aa na ca, .slice Ba ma da]) x k j := ⟨_, _, _, _, _, _, _, _, _, rfl, hi, hd, hx⟩
  have hd0 : d ≠ 0 := by rintro rfl; exact h0 (by rw [hx]; simp)
  have hz : decide (x = 0) = false := decide_eq_false h0
  clear h0 hi
  have HX := Lib.hid hx
  clear hx
  have HD0 := Lib.hid hd0
  clear hd0
  have HZ := Lib.hid hz
  clear hz
  have B0 := below_a2 w (.cells #[.bool ba, .slice Aa na ca, .slice Ba ma da] 27) (.cells #[.bool false, .slice none 0 0, .slice none 0 0] 27)
  have ha := ha.below B0
  have hm := hm.below B0
  have hd := hd.below B0
  have ka := ((Bq.new w (w.heap.size) (by simp) (.bool ba) (.slice Aa na ca) (.slice Ba ma da)).below (below_alloc (w.alloc (.cells #[.bool ba, .slice Aa na ca, .slice Ba ma da] 27)) (.cells #[.bool false, .slice none 0 0, .slice none 0 0] 27)))
  have kr := (Rq.new (w.alloc (.cells #[.bool ba, .slice Aa na ca, .slice Ba ma da] 27)) (w.heap.size + 1) (by simp))
  go_enter Tryz.func59, Tryz.ntmps59
  have ka_0 := ka.c0
  have ka_1 := ka.c1
  have ka_2 := ka.c2
  have kr_0 := kr.1
  have kr_1 := kr.2.1
  have kr_2 := kr.2.2.1
  have kr_3 := kr.2.2.2.1
  have kr_4 := kr.2.2.2.2.1
  have kr_5 := kr.2.2.2.2.2
  go_wp2_with fail
  refine (rzero_q ha (by omega) (by omega) false HZ.out).mono ?_
  clear ka_0 ka_1 ka_2 kr_0 kr_1 kr_2 kr_3 kr_4 kr_5
  rintro e w1 ⟨rfl, bb⟩
  have ha := ha.below bb
  have hm := hm.below bb
  have hd := hd.below bb
  have ka := ka.below bb
  have kr := kr.below bb
  have B0 := B0.trans (bb.mono B0.size)
  clear bb
  have ka_0 := ka.c0
  have ka_1 := ka.c1
  have ka_2 := ka.c2
  have kr_0 := kr.1
  have kr_1 := kr.2.1
  have kr_2 := kr.2.2.1
  have kr_3 := kr.2.2.2.1
  have kr_4 := kr.2.2.2.2.1
  have kr_5 := kr.2.2.2.2.2
  go_wp2_with fail
  refine (rreduce_q ba hm hd (by omega) (by omega) HD0.out _ HX.out.symm).mono ?_
  clear ka_0 ka_1 ka_2 kr_0 kr_1 kr_2 kr_3 kr_4 kr_5
  rintro e w2 ⟨br, Ar, nr, cr, Br, mr, dr, rfl, zr, bb⟩
  have hm := hm.below bb
  have hd := hd.below bb
  have ka := ka.below bb
  have kr := kr.below bb
  have B0 := B0.trans (bb.mono B0.size)
  clear bb
  have ka_0 := ka.c0
  have ka_1 := ka.c1
  have ka_2 := ka.c2
  have kr_0 := kr.1
  have kr_1 := kr.2.1
  have kr_2 := kr.2.2.1
  have kr_3 := kr.2.2.2.1
  have kr_4 := kr.2.2.2.2.1
  have kr_5 := kr.2.2.2.2.2
  go_wp2
  refine bodyPost_ret (v := .agg #[.bool br, .slice Ar nr cr, .slice Br mr dr]) (by simp [results, Tryz.results59, go_sem, kr_0, kr_1, kr_2]) rfl ⟨_, _, _, _, _, _, _, rfl, zr.ret3 kr _ _ _, below_ret3 B0 (by omega) _ _ _⟩
theorem QEnd.wide {x : Rat} {k j k' j' : Nat} {w w' : World} {e : Ending} (h : QEnd x k j w e w') (hk : k ≤ k') (hj : j ≤ j') : QEnd x k' j' w e w' := by
  obtain ⟨b, A, n, c, B, m, d, he, hz, hb⟩ := h
  exact ⟨b, A, n, c, B, m, d, he, hz.wide hk hj, hb⟩
theorem rqnorm_q {w : World} {va : Value} {x : Rat} {k j : Nat} (ha : Qv w va x k j) (hk : k ≤ 90) (hj : j ≤ 90) : Calls Tryz.prog 59 #[va] w (QEnd x (max k 2) (max j 2) w) := by
  by_cases h0 : x = 0
  · exact (rqnorm_z ha hk hj h0).mono fun e w' h => h.wide (by omega) (by omega)
  · exact (rqnorm_p ha hk hj h0).mono fun e w' h => h.wide (by omega) (by omega)
set_option maxRecDepth 20000 in
set_option maxHeartbeats 2000000 in
theorem rqof_0 (a : Int) (w : World) : Calls Tryz.prog 23 #[.int .i64 a, .int .i64 0] w (Q0End w) := by
  have B0 := below_a1 w (.cells #[.bool false, .slice none 0 0, .slice none 0 0] 27)
  have kr := (Rq.new w (w.heap.size) (by simp))
  go_enter Tryz.func23, Tryz.ntmps23
  have kr_0 := kr.1
  have kr_1 := kr.2.1
  have kr_2 := kr.2.2.1
  have kr_3 := kr.2.2.2.1
  have kr_4 := kr.2.2.2.2.1
  have kr_5 := kr.2.2.2.2.2
  go_wp2
  refine bodyPost_ret (v := .tuple #[.agg #[.bool false, .slice none 0 0, .slice none 0 0], .bool false]) (by simp [results, Tryz.results23, go_sem, kr_0, kr_1, kr_2]) rfl ⟨rfl, by first | exact B0 | exact b_drew (below_ret3 B0 (by omega) _ _ _) | skip⟩
theorem rmul_e {w : World} {va vb : Value} {a b k j : Nat} (ha : Nm w va a k) (hb : Nm w vb b j) (hk : k ≤ 1000) (hj : j ≤ 1000) : Calls Tryz.prog 62 #[va, vb] w (NEnd (a * b) (k + j) w) := (rmul_n ha hb hk hj).mono fun _ _ h => h.fin
theorem radd_e {w : World} {va vb : Value} {a b k j : Nat} (ha : Nm w va a k) (hb : Nm w vb b j) (hk : k ≤ 1000) (hj : j ≤ 1000) : Calls Tryz.prog 61 #[va, vb] w (NEnd (a + b) (max k j + 1) w) := (radd_n ha hb hk hj).mono fun _ _ h => h.fin
set_option maxRecDepth 20000 in
set_option maxHeartbeats 2000000 in
theorem rqof_p (a b : Int) (ha : -9223372036854775808 ≤ a) (ha' : a < 9223372036854775808) (hb : -9223372036854775808 ≤ b) (hb' : b < 9223372036854775808) (w : World) (h0 : b ≠ 0) : Calls Tryz.prog 23 #[.int .i64 a, .int .i64 b] w (QbEnd ((a : Rat) / (b : Rat)) 2 2 w) := by
  have hb0 : (b == 0) = false := by simpa using h0
  have H0 := Lib.hid h0
  clear h0
  have HA := Lib.hid ha
  clear ha
  have HA1 := Lib.hid ha'
  clear ha'
  have HB := Lib.hid hb
  clear hb
  have HB1 := Lib.hid hb'
  clear hb'
  have B0 := below_a1 w (.cells #[.bool false, .slice none 0 0, .slice none 0 0] 27)
  have kr := (Rq.new w (w.heap.size) (by simp))
  go_enter Tryz.func23, Tryz.ntmps23
  have kr_0 := kr.1
  have kr_1 := kr.2.1
  have kr_2 := kr.2.2.1
  have kr_3 := kr.2.2.2.1
  have kr_4 := kr.2.2.2.2.1
  have kr_5 := kr.2.2.2.2.2
  go_wp2_with fail
  refine (riof_i a HA.out HA1.out _).mono ?_
  clear kr_0 kr_1 kr_2 kr_3 kr_4 kr_5
  rintro e w1 ⟨v1, rfl, z1, bb⟩
  have kr := kr.below bb
  have B0 := B0.trans (bb.mono B0.size)
  clear bb
  obtain ⟨b1, A1, n1, c1, rfl, z1⟩ := z1.cells
  have kr_0 := kr.1
  have kr_1 := kr.2.1
  have kr_2 := kr.2.2.1
  have kr_3 := kr.2.2.2.1
  have kr_4 := kr.2.2.2.2.1
  have kr_5 := kr.2.2.2.2.2
  go_wp2_with fail
  refine (riof_i b HB.out HB1.out _).mono ?_
  clear kr_0 kr_1 kr_2 kr_3 kr_4 kr_5
  rintro e w2 ⟨v2, rfl, z2, bb⟩
  have kr := kr.below bb
  have z1 := z1.below bb
  have B0 := B0.trans (bb.mono B0.size)
  clear bb
  obtain ⟨b2, A2, n2, c2, rfl, z2⟩ := z2.cells
  have lkr_w2 := kr.apart.1
  have kr := kr.below (below_alloc w2 (.cells #[.bool b1, .slice A1 n1 c1] 25))
  have z1 := z1.below (below_alloc w2 (.cells #[.bool b1, .slice A1 n1 c1] 25))
  have z2 := z2.below (below_alloc w2 (.cells #[.bool b1, .slice A1 n1 c1] 25))
  have k1 := Bx.new w2 (w2.heap.size) (by simp) (.bool b1) (.slice A1 n1 c1)
  have B0 := B0.trans ((below_alloc w2 (.cells #[.bool b1, .slice A1 n1 c1] 25)).mono B0.size)
  have kr := kr.below (below_alloc (w2.alloc (.cells #[.bool b1, .slice A1 n1 c1] 25)) (.cells #[.bool b2, .slice A2 n2 c2] 25))
  have z1 := z1.below (below_alloc (w2.alloc (.cells #[.bool b1, .slice A1 n1 c1] 25)) (.cells #[.bool b2, .slice A2 n2 c2] 25))
  have z2 := z2.below (below_alloc (w2.alloc (.cells #[.bool b1, .slice A1 n1 c1] 25)) (.cells #[.bool b2, .slice A2 n2 c2] 25))
  have k1 := k1.below (below_alloc (w2.alloc (.cells #[.bool b1, .slice A1 n1 c1] 25)) (.cells #[.bool b2, .slice A2 n2 c2] 25))
  have k2 := Bx.new (w2.alloc (.cells #[.bool b1, .slice A1 n1 c1] 25)) (w2.heap.size + 1) (by simp) (.bool b2) (.slice A2 n2 c2)
  have B0 := B0.trans ((below_alloc (w2.alloc (.cells #[.bool b1, .slice A1 n1 c1] 25)) (.cells #[.bool b2, .slice A2 n2 c2] 25)).mono B0.size)
  obtain ⟨p1, n1', e1, _⟩ := z1.parts
  obtain ⟨p2, n2', e2, _⟩ := z2.parts
  have hp : p2 ≠ 0 := by rintro rfl; exact H0.out (by rw [e2, sgn_zero])
  have hx : mkRat (sgn (!(b1 == b2)) p1) p2 = (a : Rat) / (b : Rat) := by rw [e1, e2]; exact RatN.red_eq b1 b2 p1 p2 hp
  have HP := Lib.hid hp
  have HX := Lib.hid hx
  clear e1 e2 hp hx z1 z2
  have k1_0 := k1.c0
  have k1_1 := k1.c1
  have k2_0 := k2.c0
  have k2_1 := k2.c1
  have kr_0 := kr.1
  have kr_1 := kr.2.1
  have kr_2 := kr.2.2.1
  have kr_3 := kr.2.2.2.1
  have kr_4 := kr.2.2.2.2.1
  have kr_5 := kr.2.2.2.2.2
  go_wp2_with fail
  refine (rreduce_q (!(b1 == b2)) n1'.nm n2'.nm (by omega) (by omega) HP.out _ HX.out).mono ?_
  clear k1_0 k1_1 k2_0 k2_1 kr_0 kr_1 kr_2 kr_3 kr_4 kr_5
  rintro e w3 ⟨br, Ar, nr, cr, Br, mr, dr, rfl, zr, bb⟩
  have kr := kr.below bb
  have k1 := k1.below bb
  have k2 := k2.below bb
  have n1' := n1'.below bb
  have n2' := n2'.below bb
  have B0 := B0.trans (bb.mono B0.size)
  clear bb
  have k1_0 := k1.c0
  have k1_1 := k1.c1
  have k2_0 := k2.c0
  have k2_1 := k2.c1
  have kr_0 := kr.1
  have kr_1 := kr.2.1
  have kr_2 := kr.2.2.1
  have kr_3 := kr.2.2.2.1
  have kr_4 := kr.2.2.2.2.1
  have kr_5 := kr.2.2.2.2.2
  go_wp2
  refine bodyPost_ret (v := .tuple #[.agg #[.bool br, .slice Ar nr cr, .slice Br mr dr], .bool true]) (by simp [results, Tryz.results23, go_sem, kr_0, kr_1, kr_2]) rfl ⟨_, _, _, _, _, _, _, rfl, zr.ret3 kr _ _ _, below_ret3 B0 (by omega) _ _ _⟩
set_option maxRecDepth 20000 in
set_option maxHeartbeats 2000000 in
theorem rqround_q {w : World} {va : Value} {x : Rat} {k j : Nat} (ha : Qv w va x k j) (hk : k ≤ 90) (hj : j ≤ 90) : Calls Tryz.prog 28 #[va] w (IEnd (RatN.roundQ x) (max k j + 10) w) := by
  obtain ⟨ba, Aa, na, ca, Ba, ma, da, rfl, _, _, _⟩ := ha.named
  have B0 := below_a2 w (.cells #[.bool ba, .slice Aa na ca, .slice Ba ma da] 27) (.cells #[.bool false, .slice none 0 0] 25)
  have ha := ha.below B0
  have ka := ((Bq.new w (w.heap.size) (by simp) (.bool ba) (.slice Aa na ca) (.slice Ba ma da)).below (below_alloc (w.alloc (.cells #[.bool ba, .slice Aa na ca, .slice Ba ma da] 27)) (.cells #[.bool false, .slice none 0 0] 25)))
  have kr := (Rx.new (w.alloc (.cells #[.bool ba, .slice Aa na ca, .slice Ba ma da] 27)) (w.heap.size + 1) (by simp))
  go_enter Tryz.func28, Tryz.ntmps28
  have ka_0 := ka.c0
  have ka_1 := ka.c1
  have ka_2 := ka.c2
  have kr_0 := kr.1
  have kr_1 := kr.2.1
  have kr_2 := kr.2.2.1
  have kr_3 := kr.2.2.2
  go_wp2_with fail
  refine (rqnorm_q ha (by omega) (by omega)).mono ?_
  clear ka_0 ka_1 ka_2 kr_0 kr_1 kr_2 kr_3
  rintro e w1 ⟨b1, A1, n1, c1, B1, m1, d1, rfl, z1, bb⟩
  have ha := ha.below bb
  have ka := ka.below bb
  have kr := kr.below bb
  have B0 := B0.trans (bb.mono B0.size)
  clear bb
  have lkr_w1 := kr.apart.1
  have kr := kr.below (below_alloc w1 (.cells #[.bool b1, .slice A1 n1 c1, .slice B1 m1 d1] 27))
  have z1 := z1.below (below_alloc w1 (.cells #[.bool b1, .slice A1 n1 c1, .slice B1 m1 d1] 27))
  have k1 := Bq.new w1 (w1.heap.size) (by simp) (.bool b1) (.slice A1 n1 c1) (.slice B1 m1 d1)
  have B0 := B0.trans ((below_alloc w1 (.cells #[.bool b1, .slice A1 n1 c1, .slice B1 m1 d1] 27)).mono B0.size)
  have d1' := z1.parts.2
  obtain ⟨p1, n1', e1, _⟩ := z1.parts.1.parts
  have hx := RatN.roundQ_s x b1 p1 e1
  have hp : 0 < 2 * x.den := by have := x.den_pos; omega
  have HX := Lib.hid hx
  have HP := Lib.hid hp
  clear e1 hx hp z1
  have k1_0 := k1.c0
  have k1_1 := k1.c1
  have k1_2 := k1.c2
  have kr_0 := kr.1
  have kr_1 := kr.2.1
  have kr_2 := kr.2.2.1
  have kr_3 := kr.2.2.2
  go_wp2_with fail
  refine (rof_z' 2 2 rfl (by decide)).mono ?_
  clear k1_0 k1_1 k1_2 kr_0 kr_1 kr_2 kr_3
  rintro e w2 ⟨v2, rfl, z2, bb⟩
  have kr := kr.below bb
  have k1 := k1.below bb
  have d1' := d1'.below bb
  have n1' := n1'.below bb
  have B0 := B0.trans (bb.mono B0.size)
  clear bb
  obtain ⟨A2, n2, c2, rfl, _, _⟩ := z2.nm.form
  go_wp2_with fail
  have kr := kr.drew
  have k1 := k1.drew
  have d1' := d1'.drew
  have n1' := n1'.drew
  have z2 := z2.drew
  have B0 := b_drew B0
  go_region_held3 (fun w' => w'.cell? ⟨w1.heap.size, 0, none⟩ = some (.bool b1) ∧ w'.cell? ⟨w1.heap.size, 1, none⟩ = some (.slice A1 n1 c1) ∧ w'.cell? ⟨w1.heap.size, 2, none⟩ = some (.slice B1 m1 d1)) (first | with_reducible exact ⟨k1.c0, k1.c1, k1.c2⟩ | with_reducible exact ⟨(k1.ret (r := w.heap.size + 1) (by omega) _ _).c0, (k1.ret (r := w.heap.size + 1) (by omega) _ _).c1, (k1.ret (r := w.heap.size + 1) (by omega) _ _).c2⟩)
    (first
      | (go_at_call 62; (with_reducible refine (rmul_e z2.nm n1'.nm ?_ ?_).mono ?_); omega; omega; rintro e w3 ⟨v5, rfl, z5, bb⟩; have kr := kr.below bb; have k1 := k1.below bb; have d1' := d1'.below bb; have n1' := n1'.below bb; have z2 := z2.below bb; have B0 := B0.trans (bb.mono B0.size); clear bb; obtain ⟨A5, n5, c5, rfl, _, _⟩ := z5.nm.form)
      | (go_at_call 61; (with_reducible refine (radd_e z5.nm d1'.nm ?_ ?_).mono ?_); omega; omega; rintro e w4 ⟨v6, rfl, z6, bb⟩; have kr := kr.below bb; have k1 := k1.below bb; have d1' := d1'.below bb; have n1' := n1'.below bb; have z2 := z2.below bb; have z5 := z5.below bb; have B0 := B0.trans (bb.mono B0.size); clear bb; obtain ⟨A6, n6, c6, rfl, _, _⟩ := z6.nm.form)
      | (go_at_call 62; (with_reducible refine (rmul_e z2.nm d1'.nm ?_ ?_).mono ?_); omega; omega; rintro e w5 ⟨v7, rfl, z7, bb⟩; have kr := kr.below bb; have k1 := k1.below bb; have d1' := d1'.below bb; have n1' := n1'.below bb; have z2 := z2.below bb; have z5 := z5.below bb; have z6 := z6.below bb; have B0 := B0.trans (bb.mono B0.size); clear bb; obtain ⟨A7, n7, c7, rfl, _, _⟩ := z7.nm.form)
      | (go_at_call 60; (with_reducible refine (rdiv_n z6.nm z7.nm ?_ ?_ HP.out).mono ?_); omega; omega; rintro e w6 ⟨v8, v9, rfl, z8, z9, bb⟩; have kr := kr.below bb; have k1 := k1.below bb; have d1' := d1'.below bb; have n1' := n1'.below bb; have z2 := z2.below bb; have z5 := z5.below bb; have z6 := z6.below bb; have z7 := z7.below bb; have B0 := B0.trans (bb.mono B0.size); clear bb; obtain ⟨A8, n8, c8, rfl, _, _⟩ := z8.nm.form; clear z9))
  have k1_0 := k1.c0
  have k1_1 := k1.c1
  have k1_2 := k1.c2
  have kr_0 := kr.1
  have kr_1 := kr.2.1
  have kr_2 := kr.2.2.1
  have kr_3 := kr.2.2.2
  go_wp2_with fail
  refine (rnorm_i (z8.nm.iv b1) (by omega)).mono ?_
  clear k1_0 k1_1 k1_2 kr_0 kr_1 kr_2 kr_3
  rintro e w21 ⟨v5, rfl, z5, bb⟩
  have kr := kr.below bb
  have k1 := k1.below bb
  have z8 := z8.below bb
  have B0 := B0.trans (bb.mono B0.size)
  clear bb
  rw [HX.out] at z5
  obtain ⟨b5, A5, n5, c5, rfl, z5⟩ := z5.cells
  have k1_0 := k1.c0
  have k1_1 := k1.c1
  have k1_2 := k1.c2
  have kr_0 := kr.1
  have kr_1 := kr.2.1
  have kr_2 := kr.2.2.1
  have kr_3 := kr.2.2.2
  go_wp2
  refine bodyPost_ret (v := .agg #[.bool b5, .slice A5 n5 c5]) (by simp [results, Tryz.results28, go_sem, kr_0, kr_1]) rfl ⟨_, rfl, (z5.wide (by omega)).ret kr _ _, below_ret B0 (by omega) _ _⟩
end Go.Proofs.YtohlilgnognmgaaGreatDoor
